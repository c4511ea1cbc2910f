import Derived.Test.YtffbkbcjddigdaaA74
import Derived.Test.YtffbkbcjddigdaaA73
import Derived.Test.YtffbkbcjddigdaaA62
import Derived.Test.YtffbkbcjddigdaaA58
import Derived.Test.YtffbkbcjddigdaaA54
import Derived.Test.YtffbkbcjddigdaaA48
import Derived.Test.YtffbkbcjddigdaaA49
import Derived.Deep.DeepCutAuto
set_option linter.unusedSimpArgs false
set_option linter.unusedVariables false
namespace Go.Proofs.Ytffbkbcjddigdaa
open Go.RowKit Go.Shelf

theorem inT_c (n : Int) (r : M.Rg) (h : r.lo ≤ n ∧ n ≤ r.hi) (w : World) : Calls Try.prog 40 #[.int .i64 n, .agg #[.int .i64 r.lo, .int .i64 r.hi]] w fun e w' => e = .returned (.bool true) ∧ Ev w w' := by
 have hi : M.inR n r = true := by
  unfold M.inR
  simp only [Bool.and_eq_true, decide_eq_true_eq]
  exact h
 have := inR_c n r w
 rw [hi] at this
 exact this
def M.totK (f : M.Cf) (t : M.Tr) (plan : List Int) (k : Nat) : Int := (((List.range k).map (M.crop f t plan)).map M.Cr.wo).sum
theorem M.totK_succ' (f : M.Cf) (t : M.Tr) (plan : List Int) (k : Nat) : M.totK f t plan (k + 1) = M.totK f t plan k + (M.crop f t plan k).wo := by
 unfold M.totK
 rw [List.range_succ, List.map_append, List.map_append, List.sum_append]
 simp
theorem M.totK_all' (f : M.Cf) (t : M.Tr) (plan : List Int) : M.totK f t plan plan.length = M.total f t plan := rfl
theorem M.check_looks {f : M.Cf} (h0 : M.check f = 0) {ls : List M.Lk} (hl : ls.length ≤ 5) (hg : ∀ l ∈ ls, M.validLook f l = true) : M.check (M.withL f ls) = 0 := by
 obtain ⟨h1, h2, _, h4, h5⟩ := M.check0 h0
 have hv : M.valid (M.withL f ls) = true := by
  have h6 := h4
  unfold M.valid at h6 ⊢
  simp only [Bool.and_eq_true, List.all_eq_true] at h6 ⊢
  exact ⟨h6.1, h6.2.1, h6.2.2.1, h6.2.2.2.1, hg⟩
 unfold M.check
 rw [if_neg (by show ¬ (9 < f.last ∨ 3 < f.base.length ∨ 5 < ls.length); omega), if_neg (by rw [hv]; decide), if_neg (by show ¬ (M.tooMany (M.ranges f) 1 = true); rw [h5]; decide)]

set_option maxRecDepth 100000 in
set_option maxHeartbeats 2000000 in
theorem cropTruth_no (f : M.Cf) (Ag Aw Ab Ac Al : Option Addr) (ng cg nw cw nb cb nc cc nl cl : Nat) (hl0 : -9223372036854775808 ≤ f.last) (a b : Int) (a0 : 0 ≤ a) (a1 : a < 65536) (b0 : 0 ≤ b) (b1 : b < 65536) (B : Option Addr) (bn bc : Nat) (ws : List Int) (hws : ∀ x ∈ ws, 0 ≤ x ∧ x < 65536) (hbc : bn ≤ bc) (hbm : bc ≤ maxLen) (w : World) (hw : Sl0 wcs 1 w w.heap.size B bn ws) (hs : M.small ng nw nb nc nl → CS w w.heap.size f Ag Aw Ab Ac Al ng cg nw cw nb cb nc cc nl cl) (hno : M.rdy f ng nw nb nc nl = false) :
  Calls Try.prog 5 #[.agg #[.int .i64 f.last, .slice Ag ng cg, .slice Aw nw cw, .slice Ab nb cb, .slice Ac nc cc, .int .i64 f.ripe, .int .i64 f.late, .int .i64 f.trod, .slice Al nl cl], .int .u16 a, .slice B bn bc, .int .u16 b] w fun e w' => e = .returned (.bool true) ∧ Ev w w' := by
 have HRD := hid (fun W (hE : Ev w W) => by have := ready_c f Ag Aw Ab Ac Al ng cg nw cw nb cb nc cc nl cl hl0 W (fun h => (hs h).ev hE); rw [hno] at this; exact this)
 clear hs hno
 go_enter Try.func5, Try.ntmps5
 go_wp2_with (first | (go_at_call 37; with_reducible refine (HRD.out _ (Ev.alloc (Ev.refl _) _)).mono ?_; rintro e w1 ⟨rfl, hb1⟩; have hG : Ev w w1 := (Ev.alloc (Ev.refl _) _).trans hb1; have Q0 := hid (hb1.heap (alloc1 w (.cells #[.int .i64 f.last, .slice Ag ng cg, .slice Aw nw cw, .slice Ab nb cb, .slice Ac nc cc, .int .i64 f.ripe, .int .i64 f.late, .int .i64 f.trod, .slice Al nl cl] 26)).1); obtain ⟨y0, y1, y2, y3, y4, y5, y6, y7, y8⟩ := cells9 Q0.out) | (go_at_call 14; with_reducible refine (awake_c _).mono ?_; rintro e w99 ⟨rfl, hb99⟩))
 go_ret
 exact ⟨rfl, hG.trans hb99⟩

set_option maxRecDepth 1000000 in
set_option maxHeartbeats 8000000 in
theorem cropTruth_yes (f : M.Cf) (Ag Aw Ab Ac Al : Option Addr) (ng cg nw cw nb cb nc cc nl cl : Nat) (hl0 : -9223372036854775808 ≤ f.last) (a b : Int) (a0 : 0 ≤ a) (a1 : a < 65536) (b0 : 0 ≤ b) (b1 : b < 65536) (B : Option Addr) (bn bc : Nat) (ws : List Int) (hws : ∀ x ∈ ws, 0 ≤ x ∧ x < 65536) (hbc : bn ≤ bc) (hbm : bc ≤ maxLen) (w : World) (hw : Sl0 wcs 1 w w.heap.size B bn ws) (HCS : Hid (CS w w.heap.size f Ag Aw Ab Ac Al ng cg nw cw nb cb nc cc nl cl)) (hr : M.rdy f ng nw nb nc nl = true) (hsm : M.small ng nw nb nc nl) (h0 : M.check f = 0) :
  Calls Try.prog 5 #[.agg #[.int .i64 f.last, .slice Ag ng cg, .slice Aw nw cw, .slice Ab nb cb, .slice Ac nc cc, .int .i64 f.ripe, .int .i64 f.late, .int .i64 f.trod, .slice Al nl cl], .int .u16 a, .slice B bn bc, .int .u16 b] w fun e w' => e = .returned (.bool true) ∧ Ev w w' := by
 obtain ⟨s0, s1, s2, s3, s4⟩ := hsm
 have HRD := hid (fun W (hE : Ev w W) => by have := ready_c f Ag Aw Ab Ac Al ng cg nw cw nb cb nc cc nl cl hl0 W (fun _ => HCS.out.ev hE); rw [hr] at this; exact this)
 have hv := (M.check_ok h0).1
 have hl9 := (M.check0 h0).1
 have hb3 := (M.check0 h0).2.1
 have hbl := HCS.out.b.len
 have HWS := hid hw
 have HLK := hid (fun W (hE : Ev w W) => Looked_c f Ag Aw Ab Ac Al ng cg nw cw nb cb nc cc nl cl h0 a a0 a1 B bn bc ws hws hbc hbm W (HCS.out.ev hE) (HWS.out.ev hE))
 have HPN := hid (fun W => planned_c f Ag Aw Ab Ac Al ng cg nw cw nb cb nc cc nl cl hv hl9 b b0 b1 W hbl (by omega))
 clear hr hw hws hbc hbm
 go_enter Try.func5, Try.ntmps5
 go_upto_region 4 with (first | (go_at_call 37; with_reducible refine (HRD.out _ (Ev.alloc (Ev.refl _) _)).mono ?_; rintro e w1 ⟨rfl, hb1⟩; have hG : Ev w w1 := (Ev.alloc (Ev.refl _) _).trans hb1; have Q0 := hid (hb1.heap (alloc1 w (.cells #[.int .i64 f.last, .slice Ag ng cg, .slice Aw nw cw, .slice Ab nb cb, .slice Ac nc cc, .int .i64 f.ripe, .int .i64 f.late, .int .i64 f.trod, .slice Al nl cl] 26)).1); obtain ⟨y0, y1, y2, y3, y4, y5, y6, y7, y8⟩ := cells9 Q0.out) | (go_at_call 38; with_reducible refine (HLK.out _ hG).mono ?_; rintro e x2 ⟨⟨t, ls, V, d, Bg, Bw, dg, dw, hls, hl5, hgood, rfl, hcx, htg, htw⟩, hb⟩; have HB2 := hid hb; have HCX := hid hcx; have HTG := hid htg; have HTW := hid htw; have HGD := hid hgood; clear hb hcx htg htw hgood))
 generalize hW3 : World.alloc (World.alloc x2 _) _ = W3
 generalize hkl : ls.length = kl at HCX hW3 ⊢
 have hE3 : Ev x2 W3 := by rw [← hW3]; exact Ev.alloc (Ev.alloc (Ev.refl _) _) _
 have hal := alloc2 x2 (.cells #[.int .i64 f.last, .slice Ag ng cg, .slice Aw nw cw, .slice Ab nb cb, .slice Ac nc cc, .int .i64 f.ripe, .int .i64 f.late, .int .i64 f.trod, .slice V kl d] 26) (.cells #[.slice Bg ng dg, .slice Bw nw dw] 28)
 rw [hW3] at hal
 have HX3 := hid hal.1
 have HT3 := hid hal.2.1
 have Q3 := hid ((HB2.out.trans hE3).heap Q0.out)
 have HCX3 := hid (HCX.out.ev hE3)
 have HTG3 := hid (HTG.out.ev hE3)
 have HTW3 := hid (HTW.out.ev hE3)
 have hG3 : Ev w W3 := (hG.trans HB2.out).trans hE3
 clear hal hW3 y0 y1 y2 y3 y4 y5 y6 y7 y8
 generalize x2.heap.size = p at HX3 HT3 ⊢
 obtain ⟨y0, y1, y2, y3, y4, y5, y6, y7, y8⟩ := cells9 Q3.out
 have h0x := M.check_looks h0 (ls := ls) (by omega) (fun l hl => (HGD.out l hl).1)
 have hmt : t ∈ M.truths (M.withL f ls) := (M.mem_truths h0x).2 ⟨hls, fun l hl => (HGD.out l hl).2⟩
 go_upto_region 5 with (go_at_call 39; with_reducible refine (HPN.out _).mono ?_; rintro e x4 ⟨⟨plan, hpl, L, dL, rfl, hsl⟩, hb⟩; have HB4 := hid hb; have HSL := hid hsl; clear hb hsl)
 generalize hpn : plan.length = pn at HSL ⊢
 have hpb : pn ≤ 3 := by have := (M.plan_parts hpl).1; omega
 have hplx : M.isPlan (M.withL f ls) plan = true := hpl
 have HX4 := hid (HB4.out.heap HX3.out)
 have HT4 := hid (HB4.out.heap HT3.out)
 have HTG5 := hid (HTG3.out.ev HB4.out)
 have HTW5 := hid (HTW3.out.ev HB4.out)
 have HCX4 := hid (HCX3.out.ev HB4.out)
 have hG4 := hG3.trans HB4.out
 have Q4 := hid (HB4.out.heap Q3.out)
 clear y0 y1 y2 y3 y4 y5 y6 y7 y8
 obtain ⟨y0, y1, y2, y3, y4, y5, y6, y7, y8⟩ := cells9 HX4.out
 obtain ⟨t0, t1⟩ := cells2 HT4.out
 have lpx := heap_lt HX4.out
 have lbq := heap_lt HT4.out
 clear HX3 HT3 Q3 HTG3 HTW3 HCX3 HCX HTG HTW Q0
 go_upto_region 5 with fail
 have HPL := hid (fun (Bg : Option Addr) (dg : Nat) (Bw : Option Addr) (dw : Nat) (Bb : Option Addr) (db : Nat) (Bc : Option Addr) (dc : Nat) (Bl : Option Addr) (dl : Nat) (T S : Option Addr) (u s : Nat) (L : Option Addr) (dL : Nat) W (h1 : CS W W.heap.size (M.withL f ls) Bg Bw Bb Bc Bl ng dg nw dw nb db nc dc kl dl) (h2 : Sl ics 1 W W.heap.size T ng u t.gr) (h3 : Sl ics 1 W W.heap.size S nw s t.wet) (h4 : Sl ics 1 W W.heap.size L pn dL plan) => (show Calls Try.prog 15 #[.agg #[.int .i64 f.last, .slice Bg ng dg, .slice Bw nw dw, .slice Bb nb db, .slice Bc nc dc, .int .i64 f.ripe, .int .i64 f.late, .int .i64 f.trod, .slice Bl kl dl], .agg #[.slice T ng u, .slice S nw s], .slice L pn dL] W fun e w' => (∃ B d, e = .returned (.tuple #[.slice B pn d, .int .i64 0]) ∧ w'.ownsRow W.heap.size 50 3 (.slice B pn d) pn ((M.play (M.withL f ls) t plan).flatMap crc)) ∧ Ev W w' from Play_ok (M.withL f ls) Bg Bw Bb Bc Bl ng dg nw dw nb db nc dc kl dl T S ng u nw s t L pn dL plan hl0 W h1 h2 h3 h4 h0x hls hplx))
 have HSE : Hid (∀ w', Ev x4 w' → (∀ o, w'.cell? ⟨p, o, none⟩ = x4.cell? ⟨p, o, none⟩) ∧ (∀ o, w'.cell? ⟨p + 1, o, none⟩ = x4.cell? ⟨p + 1, o, none⟩)) := hid (fun w' h => ⟨fun o => h.cells.1 _ o lpx, fun o => h.cells.1 _ o lbq⟩)
 refine wp_region_held_drew (S := fun w' => (∀ o, w'.cell? ⟨p, o, none⟩ = x4.cell? ⟨p, o, none⟩) ∧ (∀ o, w'.cell? ⟨p + 1, o, none⟩ = x4.cell? ⟨p + 1, o, none⟩)) (by kernel_rfl) (⟨fun o => rfl, fun o => rfl⟩) (fun hHeld => ?_)
 refine tkH 0 (some 42) ?_
 (try simp only [Act.put, sA, sB, sC])
 refine tkH 2 (some 44) ?_
 (try simp only [Act.put, sA, sB, sC])
 refine tkH 4 (some 46) ?_
 (try simp only [Act.put, sA, sB, sC])
 refine wpAnyH_one (i := 1) rfl (by kernel_rfl) (by rfl) (fun K hK => ?_)
 go_simp
 refine (FieldL_c f ls Ag Aw Ab Ac V ng cg nw cw nb cb nc cc kl d (by omega) (by omega) (by omega) (by omega) (by omega) _ (HCX4.out.ev (Ev.drew (Ev.refl _)))).mono ?_
 rintro e x5 ⟨⟨Bg5, dg5, Bw5, dw5, Bb5, db5, Bc5, dc5, Bl5, dl5, rfl, hc5⟩, hb5⟩
 have hV5 : Ev x4 x5 := Ev.trans (Ev.drew (Ev.refl _)) hb5
 refine hK.out _ _ (HSE.out _ hV5) (fun hHeld => ?_)
 clear hK K
 (try simp only [Act.put, sA, sB, sC])
 refine wpAnyH_one (i := 3) rfl (by kernel_rfl) (by rfl) (fun K hK => ?_)
 go_simp
 refine (Truth_c Bg Bw ng dg nw dw t (by omega) (by omega) _ (HTG5.out.ev hV5) (HTW5.out.ev hV5)).mono ?_
 rintro e x6 ⟨⟨T5, u5, S5, s5, rfl, ht5, hs5⟩, hb6⟩
 have hV6 : Ev x4 x6 := Ev.trans hV5 hb6
 refine hK.out _ _ (HSE.out _ hV6) (fun hHeld => ?_)
 clear hK K
 (try simp only [Act.put, sA, sB, sC])
 refine wpAnyH_one (i := 5) rfl (by kernel_rfl) (by rfl) (fun K hK => ?_)
 go_simp
 refine (list_c L pn dL plan (by omega) _ (HSL.out.ev hV6)).mono ?_
 rintro e x7 ⟨⟨L5, dL5, rfl, ho5⟩, hb7⟩
 have hV7 : Ev x4 x7 := Ev.trans hV6 hb7
 refine hK.out _ _ (HSE.out _ hV7) (fun hHeld => ?_)
 clear hK K
 (try simp only [Act.put, sA, sB, sC])
 refine wpAnyH_one (i := 6) rfl (by kernel_rfl) (by rfl) (fun K hK => ?_)
 go_simp
 refine (HPL.out Bg5 dg5 Bw5 dw5 Bb5 db5 Bc5 dc5 Bl5 dl5 T5 S5 u5 s5 L5 dL5 _ ((hc5.ev hb6).ev hb7) (ht5.ev hb7) (hs5.ev hb7) (sl_own (enc := ics) (by decide) (ics_len _) (by omega) ho5)).mono ?_
 rintro e x8 ⟨⟨CB5, cd5, rfl, hcr5⟩, hb8⟩
 have hV8 : Ev x4 x8 := Ev.trans hV7 hb8
 refine hK.out _ _ (HSE.out _ hV8) (fun hHeld => ?_)
 clear hK K
 (try simp only [Act.put, sA, sB, sC])
 refine tkH 7 (some 41) ?_
 (try simp only [Act.put, sA, sB, sC])
 refine tkH 8 (some 49) ?_
 (try simp only [Act.put, sA, sB, sC])
 refine tkH 9 (some 50) ?_
 (try simp only [Act.put, sA, sB, sC])
 refine tkH 10 (some 12) ?_
 (try simp only [Act.put, sA, sB, sC])
 refine tkH 11 (some 13) ?_
 (try simp only [Act.put, sA, sB, sC])
 refine wpAnyH_done (by kernel_rfl) ?_ _
 have hG8 := hG4.trans hV8
 have HCR := hid (sl_own (enc := crc) (by decide) (crc_len _) (by omega) hcr5)
 have hbg : ∀ nm, nm = true → M.begin (M.withL f ls) nm = 0 := fun nm hn => by
  unfold M.begin
  rw [if_neg (by simp [h0x]), hn, if_neg (by simp), if_neg (fun e => by rw [e] at hmt; cases hmt)]
 have hfit := M.truth_fit hmt
 have hlx : (M.withL f ls).looks.length = kl := hkl
 have hwr := M.fit_wrong h0x hfit
 have hlf := M.fit_left h0x hlx hfit
 have HP8 := hid (Ev.refl x8)
 have VV := hid (fun (Bg : Option Addr) (dg : Nat) (Bw : Option Addr) (dw : Nat) (Bb : Option Addr) (db : Nat) (Bc : Option Addr) (dc : Nat) (Bl : Option Addr) (dl : Nat) (L : Option Addr) (dL : Nat) W (h1 : CS W W.heap.size (M.withL f ls) Bg Bw Bb Bc Bl ng dg nw dw nb db nc dc kl dl) (h4 : Sl ics 1 W W.heap.size L pn dL plan) => And.intro (show Calls Try.prog 34 #[.agg #[.int .i64 f.last, .slice Bg ng dg, .slice Bw nw dw, .slice Bb nb db, .slice Bc nc dc, .int .i64 f.ripe, .int .i64 f.late, .int .i64 f.trod, .slice Bl kl dl], .slice L pn dL] W fun e w' => (∃ B d, e = .returned (.tuple #[.slice B pn d, .int .i64 0]) ∧ Sl bdc 5 w' w'.heap.size B pn d (M.bounds (M.withL f ls) (M.truths (M.withL f ls)) plan)) ∧ Ev W w' from Bounds_ok (M.withL f ls) Bg Bw Bb Bc Bl ng dg nw dw nb db nc dc kl dl L pn dL plan hl0 W h1 h4 (hbg _ hplx))
  (show Calls Try.prog 29 #[.agg #[.int .i64 f.last, .slice Bg ng dg, .slice Bw nw dw, .slice Bb nb db, .slice Bc nc dc, .int .i64 f.ripe, .int .i64 f.late, .int .i64 f.trod, .slice Bl kl dl], .slice L pn dL] W fun e w' => e = .returned (.tuple #[.agg #[.int .i64 (M.worth (M.withL f ls) plan).lo, .int .i64 (M.worth (M.withL f ls) plan).hi], .int .i64 0]) ∧ Ev W w' from Worth_ok (M.withL f ls) Bg Bw Bb Bc Bl ng dg nw dw nb db nc dc kl dl L pn dL plan hl0 W h1 h4 (hbg _ hplx)))
 have VF := hid (fun (Bg : Option Addr) (dg : Nat) (Bw : Option Addr) (dw : Nat) (Bb : Option Addr) (db : Nat) (Bc : Option Addr) (dc : Nat) (Bl : Option Addr) (dl : Nat) W (h1 : CS W W.heap.size (M.withL f ls) Bg Bw Bb Bc Bl ng dg nw dw nb db nc dc kl dl) => And.intro (show Calls Try.prog 31 #[.agg #[.int .i64 f.last, .slice Bg ng dg, .slice Bw nw dw, .slice Bb nb db, .slice Bc nc dc, .int .i64 f.ripe, .int .i64 f.late, .int .i64 f.trod, .slice Bl kl dl]] W fun e w' => (∃ B d, e = .returned (.tuple #[.slice B 0 d, .int .i64 0])) ∧ Ev W w' from (Leave_ok (M.withL f ls) Bg Bw Bb Bc Bl ng dg nw dw nb db nc dc kl dl hl0 W h1 h0x).mono fun e w' h => ⟨by obtain ⟨B, d, h2, _⟩ := h.1; rw [hlf] at h2; exact ⟨B, d, h2⟩, h.2⟩)
  (show Calls Try.prog 36 #[.agg #[.int .i64 f.last, .slice Bg ng dg, .slice Bw nw dw, .slice Bb nb db, .slice Bc nc dc, .int .i64 f.ripe, .int .i64 f.late, .int .i64 f.trod, .slice Bl kl dl]] W fun e w' => e = .returned (.tuple #[.int .i64 0, .int .i64 7]) ∧ Ev W w' from (First_c (M.withL f ls) Bg Bw Bb Bc Bl ng dg nw dw nb db nc dc kl dl hl0 W h1).mono fun e w' h => ⟨by rw [h.1, hwr], h.2⟩))
 clear hHeld HSE hc5 ht5 hs5 ho5 hcr5 HPL hwr hlf
 clear y0 y1 y2 y3 y4 y5 y6 y7 y8
 clear t0 t1
 obtain ⟨y0, y1, y2, y3, y4, y5, y6, y7, y8⟩ := cells9 ((hV8.trans HP8.out).heap HX4.out)
 obtain ⟨t0, t1⟩ := cells2 ((hV8.trans HP8.out).heap HT4.out)
 go_upto_region 7 with (first | (go_at_call 16; with_reducible refine (FieldL_c f ls Ag Aw Ab Ac V ng cg nw cw nb cb nc cc kl d (by omega) (by omega) (by omega) (by omega) (by omega) _ (HCX4.out.ev (hV8.trans HP8.out))).mono ?_; rintro e x9 ⟨⟨Bg9, dg9, Bw9, dw9, Bb9, db9, Bc9, dc9, Bl9, dl9, rfl, hc⟩, hb⟩; have HP9 := hid (HP8.out.trans hb); have HC9 := hid hc; clear hc hb) | (go_at_call 18; with_reducible refine (list_c L pn dL plan (by omega) _ (HSL.out.ev (hV8.trans HP9.out))).mono ?_; rintro e x10 ⟨⟨L10, dL10, rfl, ho⟩, hb⟩; have HP10 := hid (HP9.out.trans hb); have HO10 := hid (sl_own (enc := ics) (by decide) (ics_len _) (by omega) ho); have HC10 := hid (HC9.out.ev hb); clear ho hb) | (go_at_call 34; with_reducible refine ((VV.out Bg9 dg9 Bw9 dw9 Bb9 db9 Bc9 dc9 Bl9 dl9 L10 dL10 _ HC10.out HO10.out).1).mono ?_; rintro e x11 ⟨⟨BD, bd, rfl, hbd⟩, hb⟩; have HP11 := hid (HP10.out.trans hb); clear hb; have HBD := hid hbd; have HD11 := hid (Ev.refl x11); clear hbd; clear y0 y1 y2 y3 y4 y5 y6 y7 y8; clear t0 t1; obtain ⟨y0, y1, y2, y3, y4, y5, y6, y7, y8⟩ := cells9 ((hV8.trans HP11.out).heap HX4.out); obtain ⟨t0, t1⟩ := cells2 ((hV8.trans HP11.out).heap HT4.out)))
 go_upto_region 8 with (first | (go_at_call 16; with_reducible refine (FieldL_c f ls Ag Aw Ab Ac V ng cg nw cw nb cb nc cc kl d (by omega) (by omega) (by omega) (by omega) (by omega) _ (HCX4.out.ev (hV8.trans HP11.out))).mono ?_; rintro e x12 ⟨⟨Bg12, dg12, Bw12, dw12, Bb12, db12, Bc12, dc12, Bl12, dl12, rfl, hc⟩, hb⟩; have HP12 := hid (HP11.out.trans hb); have HD12 := hid (HD11.out.trans hb); have HC12 := hid hc; clear hc hb) | (go_at_call 18; with_reducible refine (list_c L pn dL plan (by omega) _ (HSL.out.ev (hV8.trans HP12.out))).mono ?_; rintro e x13 ⟨⟨L13, dL13, rfl, ho⟩, hb⟩; have HP13 := hid (HP12.out.trans hb); have HD13 := hid (HD12.out.trans hb); have HO13 := hid (sl_own (enc := ics) (by decide) (ics_len _) (by omega) ho); have HC13 := hid (HC12.out.ev hb); clear ho hb) | (go_at_call 29; with_reducible refine ((VV.out Bg12 dg12 Bw12 dw12 Bb12 db12 Bc12 dc12 Bl12 dl12 L13 dL13 _ HC13.out HO13.out).2).mono ?_; rintro e x14 ⟨rfl, hb⟩; have HP14 := hid (HP13.out.trans hb); have HD14 := hid (HD13.out.trans hb); clear hb))
 generalize hWA : World.alloc x14 _ = WA
 have hEA : Ev x14 WA := by rw [← hWA]; exact Ev.alloc (Ev.refl _) _
 have hal := alloc1 x14 (.cells #[.int .i64 (M.worth (M.withL f ls) plan).lo, .int .i64 (M.worth (M.withL f ls) plan).hi] 57)
 rw [hWA] at hal
 have HRA := hid hal.1
 have HP15 := hid (HP14.out.trans hEA)
 have HD15 := hid (HD14.out.trans hEA)
 have HA15 := hid (Ev.refl WA)
 clear hal hWA hEA
 generalize x14.heap.size = rb at HRA ⊢
 clear y0 y1 y2 y3 y4 y5 y6 y7 y8
 clear t0 t1
 obtain ⟨y0, y1, y2, y3, y4, y5, y6, y7, y8⟩ := cells9 ((hV8.trans HP15.out).heap HX4.out)
 obtain ⟨t0, t1⟩ := cells2 ((hV8.trans HP15.out).heap HT4.out)
 go_upto_region 9 with (first | (go_at_call 16; with_reducible refine (FieldL_c f ls Ag Aw Ab Ac V ng cg nw cw nb cb nc cc kl d (by omega) (by omega) (by omega) (by omega) (by omega) _ (HCX4.out.ev (hV8.trans HP15.out))).mono ?_; rintro e x16 ⟨⟨Bg16, dg16, Bw16, dw16, Bb16, db16, Bc16, dc16, Bl16, dl16, rfl, hc⟩, hb⟩; have HP16 := hid (HP15.out.trans hb); have HD16 := hid (HD15.out.trans hb); have HA16 := hid (HA15.out.trans hb); have HC16 := hid hc; clear hc hb) | (go_at_call 31; with_reducible refine ((VF.out Bg16 dg16 Bw16 dw16 Bb16 db16 Bc16 dc16 Bl16 dl16 _ HC16.out).1).mono ?_; rintro e x17 ⟨⟨BL, bl, rfl⟩, hb⟩; have HP17 := hid (HP16.out.trans hb); have HD17 := hid (HD16.out.trans hb); have HA17 := hid (HA16.out.trans hb); clear hb; clear y0 y1 y2 y3 y4 y5 y6 y7 y8; clear t0 t1; obtain ⟨y0, y1, y2, y3, y4, y5, y6, y7, y8⟩ := cells9 ((hV8.trans HP17.out).heap HX4.out); obtain ⟨t0, t1⟩ := cells2 ((hV8.trans HP17.out).heap HT4.out)))
 go_upto_region 10 with (first | (go_at_call 16; with_reducible refine (FieldL_c f ls Ag Aw Ab Ac V ng cg nw cw nb cb nc cc kl d (by omega) (by omega) (by omega) (by omega) (by omega) _ (HCX4.out.ev (hV8.trans HP17.out))).mono ?_; rintro e x18 ⟨⟨Bg18, dg18, Bw18, dw18, Bb18, db18, Bc18, dc18, Bl18, dl18, rfl, hc⟩, hb⟩; have HP18 := hid (HP17.out.trans hb); have HD18 := hid (HD17.out.trans hb); have HA18 := hid (HA17.out.trans hb); have HC18 := hid hc; clear hc hb) | (go_at_call 36; with_reducible refine ((VF.out Bg18 dg18 Bw18 dw18 Bb18 db18 Bc18 dc18 Bl18 dl18 _ HC18.out).2).mono ?_; rintro e x19 ⟨rfl, hb⟩; have HP19 := hid (HP18.out.trans hb); have HD19 := hid (HD18.out.trans hb); have HA19 := hid (HA18.out.trans hb); clear hb; clear y0 y1 y2 y3 y4 y5 y6 y7 y8; clear t0 t1; obtain ⟨y0, y1, y2, y3, y4, y5, y6, y7, y8⟩ := cells9 ((hV8.trans HP19.out).heap HX4.out); obtain ⟨t0, t1⟩ := cells2 ((hV8.trans HP19.out).heap HT4.out)))
 have HB19 := hid (show Ev WA x19 from by exact HA19.out)
 obtain ⟨r0, r1⟩ := cells2 (HB19.out.heap HRA.out)
 have lpx := heap_lt ((hV8.trans HP19.out).heap HX4.out)
 have lbq := heap_lt ((hV8.trans HP19.out).heap HT4.out)
 have lrb := heap_lt (HB19.out.heap HRA.out)
 have hrt : M.right (M.withL f ls) t = true := by have := (M.mem_truths h0x).1 hmt; unfold M.right; rw [List.all_eq_true]; exact this.2
 have VT := hid (fun (Bg : Option Addr) (dg : Nat) (Bw : Option Addr) (dw : Nat) (Bb : Option Addr) (db : Nat) (Bc : Option Addr) (dc : Nat) (Bl : Option Addr) (dl : Nat) (T S : Option Addr) (u s : Nat) W (h1 : CS W W.heap.size (M.withL f ls) Bg Bw Bb Bc Bl ng dg nw dw nb db nc dc kl dl) (h2 : Sl ics 1 W W.heap.size T ng u t.gr) (h3 : Sl ics 1 W W.heap.size S nw s t.wet) => (show Calls Try.prog 19 #[.agg #[.int .i64 f.last, .slice Bg ng dg, .slice Bw nw dw, .slice Bb nb db, .slice Bc nc dc, .int .i64 f.ripe, .int .i64 f.late, .int .i64 f.trod, .slice Bl kl dl], .agg #[.slice T ng u, .slice S nw s]] W fun e w' => e = .returned (.bool true) ∧ Ev W w' from by have := ProveTruth_ok (M.withL f ls) Bg Bw Bb Bc Bl ng dg nw dw nb db nc dc kl dl T S ng u nw s t hl0 W h1 h2 h3 h0x hls; rw [hrt] at this; exact this))
 have VP := hid (fun (Bg : Option Addr) (dg : Nat) (Bw : Option Addr) (dw : Nat) (Bb : Option Addr) (db : Nat) (Bc : Option Addr) (dc : Nat) (Bl : Option Addr) (dl : Nat) (L : Option Addr) (dL : Nat) W (h1 : CS W W.heap.size (M.withL f ls) Bg Bw Bb Bc Bl ng dg nw dw nb db nc dc kl dl) (h4 : Sl ics 1 W W.heap.size L pn dL plan) => (show Calls Try.prog 33 #[.agg #[.int .i64 f.last, .slice Bg ng dg, .slice Bw nw dw, .slice Bb nb db, .slice Bc nc dc, .int .i64 f.ripe, .int .i64 f.late, .int .i64 f.trod, .slice Bl kl dl], .slice L pn dL, .int .i64 (M.worth (M.withL f ls) plan).lo] W fun e w' => e = .returned (.bool true) ∧ Ev W w' from by have := ProveWorth_ok (M.withL f ls) Bg Bw Bb Bc Bl ng dg nw dw nb db nc dc kl dl L pn dL plan (M.worth (M.withL f ls) plan).lo hl0 W h1 h4 (hbg _ hplx); rw [show decide ((M.worth (M.withL f ls) plan).lo ≤ (M.worth (M.withL f ls) plan).lo) = true from decide_eq_true (Int.le_refl _)] at this; exact this))
 have hX19 := hV8.trans HP19.out
 have hbl2 : (M.bounds (M.withL f ls) (M.truths (M.withL f ls)) plan).length = pn := by rw [M.bounds_len]; exact hpn
 have HSE : Hid (∀ w', Ev x19 w' → (∀ o, w'.cell? ⟨p, o, none⟩ = x19.cell? ⟨p, o, none⟩) ∧ (∀ o, w'.cell? ⟨p + 1, o, none⟩ = x19.cell? ⟨p + 1, o, none⟩) ∧ (∀ o, w'.cell? ⟨rb, o, none⟩ = x19.cell? ⟨rb, o, none⟩)) := hid (fun w' h => ⟨fun o => h.cells.1 _ o lpx, fun o => h.cells.1 _ o lbq, fun o => h.cells.1 _ o lrb⟩)
 go_cut [133] (fun v W => v = .bool false ∧ Ev x19 W)
 case first =>
  as_aux_lemma =>
   refine wp_region_held_drew (S := fun w' => (∀ o, w'.cell? ⟨p, o, none⟩ = x19.cell? ⟨p, o, none⟩) ∧ (∀ o, w'.cell? ⟨p + 1, o, none⟩ = x19.cell? ⟨p + 1, o, none⟩) ∧ (∀ o, w'.cell? ⟨rb, o, none⟩ = x19.cell? ⟨rb, o, none⟩)) (by kernel_rfl) (⟨fun o => rfl, fun o => rfl, fun o => rfl⟩) (fun hHeld => ?_)
   refine tkH 0 (some 79) ?_
   (try simp only [Act.put, sA, sB, sC])
   refine tkH 1 (some 80) ?_
   (try simp only [Act.put, sA, sB, sC])
   refine tkH 2 (some 81) ?_
   (try simp only [Act.put, sA, sB, sC])
   refine tkH 3 (some 82) ?_
   (try simp only [Act.put, sA, sB, sC])
   refine tkH 4 (some 83) ?_
   (try simp only [Act.put, sA, sB, sC])
   refine tkH 5 (some 84) ?_
   (try simp only [Act.put, sA, sB, sC])
   refine tkH 6 (some 85) ?_
   (try simp only [Act.put, sA, sB, sC])
   refine tkH 7 (some 86) ?_
   (try simp only [Act.put, sA, sB, sC])
   as_aux_lemma =>
    refine tkH 8 (some 87) ?_
    (try simp only [Act.put, sA, sB, sC])
    refine tkH 9 (some 88) ?_
    (try simp only [Act.put, sA, sB, sC])
    refine tkH 10 (some 89) ?_
    (try simp only [Act.put, sA, sB, sC])
    refine tkH 11 (some 90) ?_
    (try simp only [Act.put, sA, sB, sC])
    refine tkH 12 (some 91) ?_
    (try simp only [Act.put, sA, sB, sC])
    refine tkH 13 (some 92) ?_
    (try simp only [Act.put, sA, sB, sC])
    refine tkH 14 (some 93) ?_
    (try simp only [Act.put, sA, sB, sC])
    refine tkH 15 (some 94) ?_
    (try simp only [Act.put, sA, sB, sC])
    as_aux_lemma =>
     refine tkH 16 (some 95) ?_
     (try simp only [Act.put, sA, sB, sC])
     refine tkH 17 (some 96) ?_
     (try simp only [Act.put, sA, sB, sC])
     refine tkH 18 (some 97) ?_
     (try simp only [Act.put, sA, sB, sC])
     refine tkH 19 (some 98) ?_
     (try simp only [Act.put, sA, sB, sC])
     refine tkH 20 (some 99) ?_
     (try simp only [Act.put, sA, sB, sC])
     refine tkH 21 (some 100) ?_
     (try simp only [Act.put, sA, sB, sC])
     refine tkH 22 (some 101) ?_
     (try simp only [Act.put, sA, sB, sC])
     refine tkH 23 (some 102) ?_
     (try simp only [Act.put, sA, sB, sC])
     as_aux_lemma =>
      refine tkH 24 (some 103) ?_
      (try simp only [Act.put, sA, sB, sC])
      refine tkH 25 (some 104) ?_
      (try simp only [Act.put, sA, sB, sC])
      refine tkH 26 (some 105) ?_
      (try simp only [Act.put, sA, sB, sC])
      refine tkH 27 (some 106) ?_
      (try simp only [Act.put, sA, sB, sC])
      refine tkH 28 (some 107) ?_
      (try simp only [Act.put, sA, sB, sC])
      refine tkH 29 (some 108) ?_
      (try simp only [Act.put, sA, sB, sC])
      refine tkH 30 (some 109) ?_
      (try simp only [Act.put, sA, sB, sC])
      refine tkH 31 (some 110) ?_
      (try simp only [Act.put, sA, sB, sC])
      as_aux_lemma =>
       refine tkH 32 (some 111) ?_
       (try simp only [Act.put, sA, sB, sC])
       refine tkH 33 (some 112) ?_
       (try simp only [Act.put, sA, sB, sC])
       refine tkH 34 (some 113) ?_
       (try simp only [Act.put, sA, sB, sC])
       refine tkH 35 (some 114) ?_
       (try simp only [Act.put, sA, sB, sC])
       refine tkH 36 (some 115) ?_
       (try simp only [Act.put, sA, sB, sC])
       refine tkH 37 (some 116) ?_
       (try simp only [Act.put, sA, sB, sC])
       refine tkH 38 (some 117) ?_
       (try simp only [Act.put, sA, sB, sC])
       refine tkH 40 (some 119) ?_
       (try simp only [Act.put, sA, sB, sC])
       as_aux_lemma =>
        refine wpAnyH_one (i := 39) rfl (by kernel_rfl) (by rfl) (fun K hK => ?_)
        go_simp
        refine (FieldL_c f ls Ag Aw Ab Ac V ng cg nw cw nb cb nc cc kl d (by omega) (by omega) (by omega) (by omega) (by omega) _ (HCX4.out.ev (hX19.trans (Ev.drew (Ev.refl _))))).mono ?_
        rintro e x20 ⟨⟨Bg20, dg20, Bw20, dw20, Bb20, db20, Bc20, dc20, Bl20, dl20, rfl, hc20⟩, hb20⟩
        have hU20 : Ev x19 x20 := Ev.trans (Ev.drew (Ev.refl _)) hb20
        refine hK.out _ _ (HSE.out _ hU20) (fun hHeld => ?_)
        clear hK K
        (try simp only [Act.put, sA, sB, sC])
        refine wpAnyH_one (i := 41) rfl (by kernel_rfl) (by rfl) (fun K hK => ?_)
        go_simp
        refine (Truth_c Bg Bw ng dg nw dw t (by omega) (by omega) _ (HTG5.out.ev (hX19.trans hU20)) (HTW5.out.ev (hX19.trans hU20))).mono ?_
        rintro e x21 ⟨⟨T20, u20, S20, s20, rfl, ht20, hs20⟩, hb21⟩
        have hU21 : Ev x19 x21 := Ev.trans hU20 hb21
        refine hK.out _ _ (HSE.out _ hU21) (fun hHeld => ?_)
        clear hK K
        (try simp only [Act.put, sA, sB, sC])
        refine wpAnyH_one (i := 42) rfl (by kernel_rfl) (by rfl) (fun K hK => ?_)
        go_simp
        refine (VT.out Bg20 dg20 Bw20 dw20 Bb20 db20 Bc20 dc20 Bl20 dl20 T20 S20 u20 s20 _ (hc20.ev hb21) ht20 hs20).mono ?_
        rintro e x22 ⟨rfl, hb22⟩
        have hU22 : Ev x19 x22 := Ev.trans hU21 hb22
        refine hK.out _ _ (HSE.out _ hU22) (fun hHeld => ?_)
        clear hK K
        (try simp only [Act.put, sA, sB, sC])
        refine tkH 43 (some 122) ?_
        (try simp only [Act.put, sA, sB, sC])
        refine tkH 44 (some 123) ?_
        (try simp only [Act.put, sA, sB, sC])
        refine tkH 45 (some 124) ?_
        (try simp only [Act.put, sA, sB, sC])
        refine tkH 46 (some 125) ?_
        (try simp only [Act.put, sA, sB, sC])
        refine tkH 48 (some 127) ?_
        (try simp only [Act.put, sA, sB, sC])
        as_aux_lemma =>
         refine tkH 50 (some 129) ?_
         (try simp only [Act.put, sA, sB, sC])
         refine tkH 51 (some 130) ?_
         (try simp only [Act.put, sA, sB, sC])
         refine wpAnyH_one (i := 47) rfl (by kernel_rfl) (by rfl) (fun K hK => ?_)
         go_simp
         refine (FieldL_c f ls Ag Aw Ab Ac V ng cg nw cw nb cb nc cc kl d (by omega) (by omega) (by omega) (by omega) (by omega) _ (HCX4.out.ev (hX19.trans hU22))).mono ?_
         rintro e x23 ⟨⟨Bg23, dg23, Bw23, dw23, Bb23, db23, Bc23, dc23, Bl23, dl23, rfl, hc23⟩, hb23⟩
         have hU23 : Ev x19 x23 := Ev.trans hU22 hb23
         refine hK.out _ _ (HSE.out _ hU23) (fun hHeld => ?_)
         clear hK K
         (try simp only [Act.put, sA, sB, sC])
         refine wpAnyH_one (i := 49) rfl (by kernel_rfl) (by rfl) (fun K hK => ?_)
         go_simp
         refine (list_c L pn dL plan (by omega) _ (HSL.out.ev (hX19.trans hU23))).mono ?_
         rintro e x24 ⟨⟨L24, dL24, rfl, ho24⟩, hb24⟩
         have hU24 : Ev x19 x24 := Ev.trans hU23 hb24
         refine hK.out _ _ (HSE.out _ hU24) (fun hHeld => ?_)
         clear hK K
         (try simp only [Act.put, sA, sB, sC])
         refine wpAnyH_one (i := 52) rfl (by kernel_rfl) (by rfl) (fun K hK => ?_)
         go_simp
         refine (VP.out Bg23 dg23 Bw23 dw23 Bb23 db23 Bc23 dc23 Bl23 dl23 L24 dL24 _ (hc23.ev hb24) (sl_own (enc := ics) (by decide) (ics_len _) (by omega) ho24)).mono ?_
         rintro e x25 ⟨rfl, hb25⟩
         have hU25 : Ev x19 x25 := Ev.trans hU24 hb25
         refine hK.out _ _ (HSE.out _ hU25) (fun hHeld => ?_)
         clear hK K
         (try simp only [Act.put, sA, sB, sC])
         refine tkH 53 (some 132) ?_
         (try simp only [Act.put, sA, sB, sC])
         refine tkH 54 (some 133) ?_
         (try simp only [Act.put, sA, sB, sC])
         refine wpAnyH_done (by kernel_rfl) ?_ _
         go_wp2_with fail
         go_meet
         exact ⟨rfl, hU25⟩
 case rest =>
  obtain ⟨rfl, hU25⟩ := hcut
  obtain ⟨x25, hx25⟩ : ∃ x, x = wc := ⟨_, rfl⟩
  subst hx25
  go_upto_region 12 with fail
  have hX25 := hX19.trans hU25
  have E8 := hid (HP19.out.trans hU25)
  have E11 := hid (HD19.out.trans hU25)
  have HQ25 := hid (hX25.heap Q4.out)
  have HF25 := hid (hX25.heap HX4.out)
  have HT25 := hid (hX25.heap HT4.out)
  have HR25 := hid ((HB19.out.trans hU25).heap HRA.out)
  have HTGx := hid (HTG5.out.ev hX25)
  have HCX25 := hid (HCX4.out.ev hX25)
  have hGx := hid (hG4.trans hX25)
  have HCW := hid (fun k (hk : k < pn) => M.crop_bd (f := M.withL f ls) (t := t) (plan := plan) h0x hls (M.crop (M.withL f ls) t plan k) (by unfold M.play; exact List.mem_map.2 ⟨k, List.mem_range.2 (by omega), rfl⟩))
  have HPA := hid (fun k (hk : k < pn) => M.play_at (f := M.withL f ls) (t := t) (p := plan) (i := k) (by omega))
  have HBH := hid (fun k (hk : k < pn) x (hx : (M.bounds (M.withL f ls) (M.truths (M.withL f ls)) plan)[k]? = some x) => M.bounds_hold hmt (i := k) (by omega) hx)
  have HTK := hid (show M.totK (M.withL f ls) t plan pn = M.total (M.withL f ls) t plan by rw [← hpn, M.totK_all'])
  have hwh := M.worth_hold (f := M.withL f ls) (plan := plan) hmt
  have HON := hid (fun wk => M.on_hold (f := M.withL f ls) (ts := M.truths (M.withL f ls)) hmt wk)
  have HBGX := hid (fun (k : Nat) (hk : (k : Int) ≤ f.last) => show M.begin (M.withL f ls) (M.hasWeek (M.withL f ls) k) = 0 from hbg _ (by unfold M.hasWeek; simp only [Bool.and_eq_true, decide_eq_true_eq]; exact ⟨by omega, hk⟩))
  obtain ⟨_, hcr_, hcw_⟩ := M.plan_parts (M.valid_parts hv).2.2.2.2.2.2.2.2.2.2.2.1
  have HRS := hid (And.intro hcr_ (fun q hq => (hcw_ q hq).1))
  obtain ⟨htgl, _, htgb, _⟩ := M.listed_bd hv hls
  have HGB := hid htgb
  have hgl_ := HCS.out.g.len
  have hvl_ := (M.valid_parts hv).2.1
  have hv0_ := (M.valid_parts hv).1
  have hngl : (ng : Int) = f.last + 1 := by omega
  generalize M.worth (M.withL f ls) plan = wf at HR25 hwh
  clear HSE VV VF VT VP HSL r0 r1 y0 y1 y2 y3 y4 y5 y6 y7 y8 t0 t1 lpx lbq lrb hfit hcr_ hcw_ htgb hgl_ hvl_ hbg
  go_wp2_with fail
  go_loopw [22, 23] (fun a i wr => ∃ (k : Nat) (s : Int), a = .int .i64 s ∧ i = .int .i64 k ∧ k ≤ pn ∧ 0 ≤ s ∧ s ≤ 100000 * k ∧ Ev x25 wr ∧ Hid (s = M.totK (M.withL f ls) t plan k)) (fun _ i _ => pn - (intOf i).toNat)
  case atStart => exact ⟨0, 0, rfl, rfl, by omega, by omega, by omega, Ev.refl _, hid rfl⟩
  case round =>
   obtain ⟨k, s, rfl, rfl, hk, hs0, hs1, hB, HM⟩ := hrel
   obtain ⟨W1, hW1⟩ : ∃ x, x = wr := ⟨_, rfl⟩
   subst hW1
   by_cases hlt : k < pn
   ·
    as_aux_lemma =>
    obtain ⟨bc1, oc, x, hAc, hbc_, hxc, _, hcc⟩ := (HCR.out.ev (E8.out.trans hB)).at_ (Below.refl _ _) hlt
    obtain ⟨bd1, od, y, hAd, hbd_, hxd, _, hcd⟩ := (HBD.out.ev (E11.out.trans hB)).at_ (Below.refl _ _) hlt
    have hxx := HPA.out k hlt
    rw [hxc] at hxx
    obtain rfl := Option.some.inj hxx
    obtain ⟨b1_, b2_, b3_⟩ := HBH.out k hlt y hxd
    have hcr := HCW.out k hlt
    have hmu : (M.crop (M.withL f ls) t plan k).wo = (M.crop (M.withL f ls) t plan k).wt * (M.crop (M.withL f ls) t plan k).st := rfl
    have HM2 := hid (show s + (M.crop (M.withL f ls) t plan k).wo = M.totK (M.withL f ls) t plan (k + 1) by rw [M.totK_succ', HM.out])
    generalize M.crop (M.withL f ls) t plan k = cr at hcr HM2 hcc b1_ b2_ b3_ hmu
    have e0 := hcc 0 _ rfl
    have e1 := hcc 1 _ rfl
    have e2 := hcc 2 _ rfl
    have d0 := hcd 0 _ rfl
    have d1 := hcd 1 _ rfl
    have d2 := hcd 2 _ rfl
    have d3 := hcd 3 _ rfl
    have d4 := hcd 4 _ rfl
    simp only [Nat.add_zero] at e0 d0
    rw [b2_] at d2
    have HIN1 := hid (fun W => inT_c cr.wt y.wt b1_ W)
    have HIN2 := hid (fun W => inT_c cr.wo y.wo b3_ W)
    obtain ⟨wo, hwo⟩ : ∃ wo, cr.wo = wo := ⟨_, rfl⟩
    rw [hwo] at e2 HM2 hcr hmu HIN2
    have g1 : IntKind.i64.wrap (s + wo) = s + wo := IntWalk.i64_in _ (by omega)
    have g2 : IntKind.i64.wrap (cr.wt * cr.st) = wo := by rw [← hmu]; exact IntWalk.i64_in _ (by omega)
    have c3_ : (wo != wo) = false := by simp
    have c4_ : (cr.st != cr.st) = false := by simp
    have hcapc := HCR.out.cap
    have hcapd := HBD.out.cap
    subst hAc hAd
    clear HM hxc hxd hcc hcd hxx hwo hmu b1_ b2_ b3_
    go_upto_region 16 with fail
    have HSE : Hid (∀ w', Ev W1 w' → (∀ o, w'.cell? ⟨bc1, o, none⟩ = W1.cell? ⟨bc1, o, none⟩) ∧ (∀ o, w'.cell? ⟨bd1, o, none⟩ = W1.cell? ⟨bd1, o, none⟩)) := hid (fun w' h => ⟨fun o => h.cells.1 _ o hbc_, fun o => h.cells.1 _ o hbd_⟩)
    refine wp_region_held_drew (S := fun w' => (∀ o, w'.cell? ⟨bc1, o, none⟩ = W1.cell? ⟨bc1, o, none⟩) ∧ (∀ o, w'.cell? ⟨bd1, o, none⟩ = W1.cell? ⟨bd1, o, none⟩)) (by kernel_rfl) (⟨fun o => rfl, fun o => rfl⟩) (fun hHeld => ?_)
    refine tkH 0 (some 140) ?_
    (try simp only [Act.put, sA, sB, sC])
    refine tkH 1 (some 141) ?_
    (try simp only [Act.put, sA, sB, sC])
    refine tkH 2 (some 142) ?_
    (try simp only [Act.put, sA, sB, sC])
    refine tkH 3 (some 143) ?_
    (try simp only [Act.put, sA, sB, sC])
    refine tkH 4 (some 144) ?_
    (try simp only [Act.put, sA, sB, sC])
    refine tkH 5 (some 145) ?_
    (try simp only [Act.put, sA, sB, sC])
    refine tkH 6 (some 146) ?_
    (try simp only [Act.put, sA, sB, sC])
    refine tkH 7 (some 147) ?_
    (try simp only [Act.put, sA, sB, sC])
    as_aux_lemma =>
     refine tkH 8 (some 148) ?_
     (try simp only [Act.put, sA, sB, sC])
     refine tkH 9 (some 149) ?_
     (try simp only [Act.put, sA, sB, sC])
     refine wpAnyH_one (i := 10) rfl (by kernel_rfl) (by rfl) (fun K hK => ?_)
     go_simp
     refine (HIN1.out _).mono ?_
     rintro e z1 ⟨rfl, hb⟩
     have hZ1 : Ev W1 z1 := Ev.trans (Ev.drew (Ev.refl _)) hb
     refine hK.out _ _ (HSE.out _ hZ1) (fun hHeld => ?_)
     clear hK K
     (try simp only [Act.put, sA, sB, sC])
     refine tkH 11 (some 151) ?_
     (try simp only [Act.put, sA, sB, sC])
     refine tkH 12 (some 152) ?_
     (try simp only [Act.put, sA, sB, sC])
     refine tkH 13 (some 153) ?_
     (try simp only [Act.put, sA, sB, sC])
     refine tkH 14 (some 154) ?_
     (try simp only [Act.put, sA, sB, sC])
     refine tkH 15 (some 155) ?_
     (try simp only [Act.put, sA, sB, sC])
     as_aux_lemma =>
      refine tkH 16 (some 156) ?_
      (try simp only [Act.put, sA, sB, sC])
      refine tkH 17 (some 157) ?_
      (try simp only [Act.put, sA, sB, sC])
      refine tkH 18 (some 158) ?_
      (try simp only [Act.put, sA, sB, sC])
      refine tkH 19 (some 159) ?_
      (try simp only [Act.put, sA, sB, sC])
      refine tkH 20 (some 160) ?_
      (try simp only [Act.put, sA, sB, sC])
      refine tkH 21 (some 161) ?_
      (try simp only [Act.put, sA, sB, sC])
      refine tkH 22 (some 162) ?_
      (try simp only [Act.put, sA, sB, sC])
      refine wpAnyH_one (i := 23) rfl (by kernel_rfl) (by rfl) (fun K hK => ?_)
      go_simp
      refine (HIN2.out _).mono ?_
      rintro e z2 ⟨rfl, hb⟩
      have hZ2 : Ev W1 z2 := Ev.trans hZ1 hb
      refine hK.out _ _ (HSE.out _ hZ2) (fun hHeld => ?_)
      clear hK K
      (try simp only [Act.put, sA, sB, sC])
      as_aux_lemma =>
       refine tkH 24 (some 164) ?_
       (try simp only [Act.put, sA, sB, sC])
       refine tkH 25 (some 165) ?_
       (try simp only [Act.put, sA, sB, sC])
       refine tkH 26 (some 166) ?_
       (try simp only [Act.put, sA, sB, sC])
       refine tkH 27 (some 167) ?_
       (try simp only [Act.put, sA, sB, sC])
       refine tkH 28 (some 168) ?_
       (try simp only [Act.put, sA, sB, sC])
       refine tkH 29 (some 169) ?_
       (try simp only [Act.put, sA, sB, sC])
       refine tkH 30 (some 170) ?_
       (try simp only [Act.put, sA, sB, sC])
       refine tkH 31 (some 171) ?_
       (try simp only [Act.put, sA, sB, sC])
       as_aux_lemma =>
        refine tkH 32 (some 172) ?_
        (try simp only [Act.put, sA, sB, sC])
        refine tkH 33 (some 173) ?_
        (try simp only [Act.put, sA, sB, sC])
        refine tkH 34 (some 174) ?_
        (try simp only [Act.put, sA, sB, sC])
        refine tkH 35 (some 175) ?_
        (try simp only [Act.put, sA, sB, sC])
        refine tkH 36 (some 176) ?_
        (try simp only [Act.put, sA, sB, sC])
        refine tkH 37 (some 177) ?_
        (try simp only [Act.put, sA, sB, sC])
        refine tkH 38 (some 178) ?_
        (try simp only [Act.put, sA, sB, sC])
        refine tkH 39 (some 179) ?_
        (try simp only [Act.put, sA, sB, sC])
        as_aux_lemma =>
         refine tkH 40 (some 180) ?_
         (try simp only [Act.put, sA, sB, sC])
         refine tkH 41 (some 181) ?_
         (try simp only [Act.put, sA, sB, sC])
         refine tkH 42 (some 182) ?_
         (try simp only [Act.put, sA, sB, sC])
         refine tkH 43 (some 183) ?_
         (try simp only [Act.put, sA, sB, sC])
         refine tkH 44 (some 184) ?_
         (try simp only [Act.put, sA, sB, sC])
         refine tkH 45 (some 185) ?_
         (try simp only [Act.put, sA, sB, sC])
         refine tkH 46 (some 186) ?_
         (try simp only [Act.put, sA, sB, sC])
         refine tkH 47 (some 187) ?_
         (try simp only [Act.put, sA, sB, sC])
         as_aux_lemma =>
          refine tkH 48 (some 188) ?_
          (try simp only [Act.put, sA, sB, sC])
          refine tkH 49 (some 189) ?_
          (try simp only [Act.put, sA, sB, sC])
          refine tkH 50 (some 190) ?_
          (try simp only [Act.put, sA, sB, sC])
          refine tkH 51 (some 191) ?_
          (try simp only [Act.put, sA, sB, sC])
          refine tkH 52 (some 192) ?_
          (try simp only [Act.put, sA, sB, sC])
          refine tkH 53 (some 193) ?_
          (try simp only [Act.put, sA, sB, sC])
          refine tkH 54 (some 194) ?_
          (try simp only [Act.put, sA, sB, sC])
          refine tkH 55 (some 195) ?_
          (try simp only [Act.put, sA, sB, sC])
          as_aux_lemma =>
           refine tkH 56 (some 196) ?_
           (try simp only [Act.put, sA, sB, sC])
           refine tkH 57 (some 197) ?_
           (try simp only [Act.put, sA, sB, sC])
           refine wpAnyH_done (by kernel_rfl) ?_ _
           have f2 := (hZ2.cells.1 bc1 _ hbc_).trans e2
           clear e0 e1 e2 d0 d1 d2 d3 d4 hHeld HSE
           go_wp2_with fail
           exact ⟨⟨k + 1, s + wo, rfl, by go_num, by omega, by omega, by omega, hB.trans hZ2, HM2⟩, by simp [intOf]; omega⟩
   ·
    as_aux_lemma =>
    obtain rfl : k = pn := by omega
    have HS := hid (show s = M.total (M.withL f ls) t plan by rw [HM.out, HTK.out])
    rw [← HS.out] at hwh
    have HIN := hid (fun W => inT_c s wf hwh W)
    have hn2 : ¬ ((k : Int) < k) := by omega
    clear HM HPA HBH HCW
    go_wp2_with fail
    go_loopw [24] (fun i wr => ∃ (k : Nat), i = .int .i64 k ∧ (k : Int) ≤ f.last + 1 ∧ Ev x25 wr) (fun i _ => f.last.toNat + 1 - (intOf i).toNat)
    case atStart => exact ⟨0, rfl, by omega, hB⟩
    case round =>
     obtain ⟨m, rfl, hm, hB2⟩ := hrel
     obtain ⟨W2, hW2⟩ : ∃ x, x = wr := ⟨_, rfl⟩
     subst hW2
     obtain ⟨y0, y1, y2, y3, y4, y5, y6, y7, y8⟩ := cells9 (hB2.heap HQ25.out)
     obtain ⟨c0, c1, c2, c3, c4, c5, c6, c7, c8⟩ := cells9 (hB2.heap HF25.out)
     by_cases hml : (m : Int) ≤ f.last
     ·
      have HSD := hid (fun (Bg : Option Addr) (dg : Nat) (Bw : Option Addr) (dw : Nat) (Bb : Option Addr) (db : Nat) (Bc : Option Addr) (dc : Nat) (Bl : Option Addr) (dl : Nat) W (h1 : CS W W.heap.size (M.withL f ls) Bg Bw Bb Bc Bl ng dg nw dw nb db nc dc kl dl) => (show Calls Try.prog 30 #[.agg #[.int .i64 f.last, .slice Bg ng dg, .slice Bw nw dw, .slice Bb nb db, .slice Bc nc dc, .int .i64 f.ripe, .int .i64 f.late, .int .i64 f.trod, .slice Bl kl dl], .int .i64 m] W fun e w' => e = .returned (.tuple #[.agg #[.int .i64 (M.on (M.withL f ls) (M.truths (M.withL f ls)) m).lo, .int .i64 (M.on (M.withL f ls) (M.truths (M.withL f ls)) m).hi], .int .i64 0]) ∧ Ev W w' from Standing_ok (M.withL f ls) Bg Bw Bb Bc Bl ng dg nw dw nb db nc dc kl dl m hl0 W h1 (HBGX.out m hml)))
      have hon := HON.out m
      rw [Int.toNat_natCast] at hon
      have HST := hid (fun W (hE : Ev x25 W) => rStanding_c Bg Bw ng dg nw dw t.gr Ac nc cc f.crops m (show m < ng by omega) (by omega) HRS.out.1 HRS.out.2 HGB.out W (HTGx.out.ev hE) (HCS.out.c.ev (hGx.out.trans hE)))
      generalize M.on (M.withL f ls) (M.truths (M.withL f ls)) m = r at HSD hon
      rw [show (M.withL f ls).crops = f.crops from rfl] at hon
      generalize (M.weights t.gr f.crops).getD m 0 = sv at HST hon
      have HIW := hid (fun W => inT_c sv r hon W)
      go_upto_region 23 with (first | (go_at_call 16; with_reducible refine (FieldL_c f ls Ag Aw Ab Ac V ng cg nw cw nb cb nc cc kl d (by omega) (by omega) (by omega) (by omega) (by omega) _ (HCX25.out.ev hB2)).mono ?_; rintro e v1 ⟨⟨Bg9, dg9, Bw9, dw9, Bb9, db9, Bc9, dc9, Bl9, dl9, rfl, hc⟩, hb⟩; have HV1 := hid hb; have HC1 := hid hc; clear hc hb) | (go_at_call 30; with_reducible refine (HSD.out Bg9 dg9 Bw9 dw9 Bb9 db9 Bc9 dc9 Bl9 dl9 _ HC1.out).mono ?_; rintro e v2 ⟨rfl, hb⟩; have HV2 := hid (HV1.out.trans hb); clear hb))
      generalize hWA : World.alloc v2 _ = W3
      have hEA : Ev v2 W3 := by rw [← hWA]; exact Ev.alloc (Ev.refl _) _
      have hal := alloc1 v2 (.cells #[.int .i64 r.lo, .int .i64 r.hi] 57)
      rw [hWA] at hal
      have HR3 := hid hal.1
      have hE3 := hB2.trans (HV2.out.trans hEA)
      clear hal hWA y0 y1 y2 y3 y4 y5 y6 y7 y8 c0 c1 c2 c3 c4 c5 c6 c7 c8
      generalize v2.heap.size = rr at HR3 ⊢
      obtain ⟨y0, y1, y2, y3, y4, y5, y6, y7, y8⟩ := cells9 (hE3.heap HQ25.out)
      obtain ⟨t0, t1⟩ := cells2 (hE3.heap HT25.out)
      obtain ⟨z0, z1⟩ := cells2 HR3.out
      have l0 := heap_lt (hE3.heap HQ25.out)
      have l1 := heap_lt (hE3.heap HT25.out)
      have l2 := heap_lt HR3.out
      have HSF : Hid (∀ w', Ev W3 w' → (∀ o, w'.cell? ⟨w.heap.size, o, none⟩ = W3.cell? ⟨w.heap.size, o, none⟩) ∧ (∀ o, w'.cell? ⟨p + 1, o, none⟩ = W3.cell? ⟨p + 1, o, none⟩) ∧ (∀ o, w'.cell? ⟨rr, o, none⟩ = W3.cell? ⟨rr, o, none⟩)) := hid (fun w' h => ⟨fun o => h.cells.1 _ o l0, fun o => h.cells.1 _ o l1, fun o => h.cells.1 _ o l2⟩)
      refine wp_region_held_drew (S := fun w' => (∀ o, w'.cell? ⟨w.heap.size, o, none⟩ = W3.cell? ⟨w.heap.size, o, none⟩) ∧ (∀ o, w'.cell? ⟨p + 1, o, none⟩ = W3.cell? ⟨p + 1, o, none⟩) ∧ (∀ o, w'.cell? ⟨rr, o, none⟩ = W3.cell? ⟨rr, o, none⟩)) (by kernel_rfl) (⟨fun o => rfl, fun o => rfl, fun o => rfl⟩) (fun hHeld => ?_)
      refine tkH 0 (some 218) ?_
      (try simp only [Act.put, sA, sB, sC])
      refine tkH 1 (some 219) ?_
      (try simp only [Act.put, sA, sB, sC])
      refine tkH 2 (some 220) ?_
      (try simp only [Act.put, sA, sB, sC])
      refine tkH 3 (some 221) ?_
      (try simp only [Act.put, sA, sB, sC])
      refine tkH 4 (some 222) ?_
      (try simp only [Act.put, sA, sB, sC])
      refine tkH 5 (some 223) ?_
      (try simp only [Act.put, sA, sB, sC])
      refine tkH 6 (some 224) ?_
      (try simp only [Act.put, sA, sB, sC])
      refine tkH 8 (some 226) ?_
      (try simp only [Act.put, sA, sB, sC])
      refine wpAnyH_one (i := 7) rfl (by kernel_rfl) (by rfl) (fun K hK => ?_)
      go_simp
      refine (HST.out _ (hE3.trans (Ev.drew (Ev.refl _)))).mono ?_
      rintro e z1 ⟨rfl, hb⟩
      have hZ1 : Ev W3 z1 := Ev.trans (Ev.drew (Ev.refl _)) hb
      refine hK.out _ _ (HSF.out _ hZ1) (fun hHeld => ?_)
      clear hK K
      (try simp only [Act.put, sA, sB, sC])
      refine wpAnyH_one (i := 9) rfl (by kernel_rfl) (by rfl) (fun K hK => ?_)
      go_simp
      refine (HIW.out _).mono ?_
      rintro e z2 ⟨rfl, hb⟩
      have hZ2 : Ev W3 z2 := Ev.trans hZ1 hb
      refine hK.out _ _ (HSF.out _ hZ2) (fun hHeld => ?_)
      clear hK K
      (try simp only [Act.put, sA, sB, sC])
      refine tkH 10 (some 228) ?_
      (try simp only [Act.put, sA, sB, sC])
      refine tkH 11 (some 229) ?_
      (try simp only [Act.put, sA, sB, sC])
      refine wpAnyH_done (by kernel_rfl) ?_ _
      go_wp2_with fail
      exact ⟨⟨m + 1, by go_num, by omega, hE3.trans hZ2⟩, by simp [intOf]; omega⟩
     ·
      have hn3 : ¬ ((m : Int) ≤ f.last) := hml
      obtain ⟨r0, r1⟩ := cells2 (hB2.heap HR25.out)
      go_wp2_with (first | (go_at_call 40; with_reducible refine (HIN.out _).mono ?_; rintro e v1 ⟨rfl, hb1_⟩) | (go_at_call 14; with_reducible refine (awake_c _).mono ?_; rintro e w99 ⟨rfl, hb99⟩) | (with_reducible refine ⟨trivial, ?_⟩))
      go_ret
      exact ⟨rfl, ((hGx.out.trans hB2).trans hb1_).trans hb99⟩

theorem cropTruth_c (f : M.Cf) (Ag Aw Ab Ac Al : Option Addr) (ng cg nw cw nb cb nc cc nl cl : Nat) (hl0 : -9223372036854775808 ≤ f.last) (a b : Int) (a0 : 0 ≤ a) (a1 : a < 65536) (b0 : 0 ≤ b) (b1 : b < 65536) (B : Option Addr) (bn bc : Nat) (ws : List Int) (hws : ∀ x ∈ ws, 0 ≤ x ∧ x < 65536) (hbc : bn ≤ bc) (hbm : bc ≤ maxLen) (w : World) (hw : Sl0 wcs 1 w w.heap.size B bn ws) (hs : M.small ng nw nb nc nl → CS w w.heap.size f Ag Aw Ab Ac Al ng cg nw cw nb cb nc cc nl cl) :
  Calls Try.prog 5 #[.agg #[.int .i64 f.last, .slice Ag ng cg, .slice Aw nw cw, .slice Ab nb cb, .slice Ac nc cc, .int .i64 f.ripe, .int .i64 f.late, .int .i64 f.trod, .slice Al nl cl], .int .u16 a, .slice B bn bc, .int .u16 b] w fun e w' => e = .returned (.bool true) ∧ Ev w w' := by
 cases hr : M.rdy f ng nw nb nc nl with
 | false => exact cropTruth_no f Ag Aw Ab Ac Al ng cg nw cw nb cb nc cc nl cl hl0 a b a0 a1 b0 b1 B bn bc ws hws hbc hbm w hw hs hr
 | true =>
  have key : M.small ng nw nb nc nl ∧ M.check f = 0 := by
   have h := hr
   unfold M.rdy at h
   rw [Bool.and_eq_true, Bool.and_eq_true, decide_eq_true_eq, decide_eq_true_eq] at h
   exact ⟨h.1.1, h.2⟩
  exact cropTruth_yes f Ag Aw Ab Ac Al ng cg nw cw nb cb nc cc nl cl hl0 a b a0 a1 b0 b1 B bn bc ws hws hbc hbm w hw (hid (hs key.1)) hr key.1 key.2

end Go.Proofs.Ytffbkbcjddigdaa
