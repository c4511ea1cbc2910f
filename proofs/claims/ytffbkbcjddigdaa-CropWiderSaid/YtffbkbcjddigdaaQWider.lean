import Derived.Test.YtffbkbcjddigdaaA81
import Derived.Test.YtffbkbcjddigdaaA62
import Derived.Test.YtffbkbcjddigdaaA58
import Derived.Test.YtffbkbcjddigdaaA54
import Derived.Test.YtffbkbcjddigdaaA48
import Derived.Test.YtffbkbcjddigdaaA49
import Derived.Deep.DeepCutAuto
set_option linter.unusedSimpArgs false
set_option linter.unusedVariables false
namespace Go.Proofs.Ytffbkbcjddigdaa
open Go.RowKit Go.Shelf

theorem wp_append_any {α : Type} {enc : α → List Value} {P : Program} {w : World} {o : Oper} {a : Act} {K : Act → World → Prop} {Q : Exit → Act → World → Prop} (hgd : o.guard = none) (s x : Operand) (t : TypeId)
  (ho : o.op = .call { callee := .builtin .append, args := #[s, x], argTypes := #[t, t] })
  (base : Nat) (e : TypeId) (i : TypeInfo) (z : Value) (size bytes : Nat) (ht : P.underlying t = some (.slice e)) (hi : P.info? e = some i) (hz : i.zero = some z)
  (hsize : i.size = size) (hby : i.bytes = bytes) (hzs : z.cells.size = size) (hsz : 0 < size)
  (v : Value) (n : Nat) (xs : List α) (hs : a.eval s = v) (hown : w.ownsRow base e size v n (xs.flatMap enc))
  (A : Option Addr) (m c : Nat) (ys : List α) (B : Nat) (hx : a.eval x = .slice A m c) (hsl : Sl0 enc size w B A m ys) (henc : ∀ y ∈ ys, (enc y).length = size) (h1 : ∀ u ∈ ys.flatMap enc, u.oneCell' = true)
  (h63 : n + m ≤ maxLen) (hbytes : (n + m) * bytes ≤ 140737488355328) (hbase : base ≤ w.heap.size)
  (h : ∀ v' w', w'.ownsRow base e size v' (n + m) ((xs ++ ys).flatMap enc) → w.grownBy w' v.ownBlock → K (a.put o.dst v') w') : Oper.wp P o a w K Q := by
 have := step_append_any (ops := #[]) (E := True) (Q := Q) hgd s x t ho base e i z size bytes ht hi hz hsize hby hzs hsz v n xs hs hown A m c ys B hx hsl henc h1 h63 hbytes hbase h
 rw [if_pos (by simp [Region.wanted, hgd])] at this
 exact this
theorem infoRR : (Try.prog.info? 87).map (fun i => (i.zero, i.size, i.bytes)) = some (some (.agg #[.int .i64 0, .int .i64 0]), 2, 16) := by kernel_rfl
theorem lkc_one' (ys : List M.Lk) : ∀ u ∈ ys.flatMap lkc, u.oneCell' = true := by
 intro u hu
 obtain ⟨y, _, hy⟩ := List.mem_flatMap.1 hu
 simp [lkc] at hy
 rcases hy with rfl | rfl | rfl <;> rfl
set_option maxRecDepth 100000 in
set_option maxHeartbeats 2000000 in
theorem cropWider_no (f : M.Cf) (Ag Aw Ab Ac Al : Option Addr) (ng cg nw cw nb cb nc cc nl cl : Nat) (hl0 : -9223372036854775808 ≤ f.last) (a b c : Int) (a0 : 0 ≤ a) (a1 : a < 256) (b0 : 0 ≤ b) (b1 : b < 256) (c0 : 0 ≤ c) (c1 : c < 65536) (w : World) (hs : M.small ng nw nb nc nl → CS w w.heap.size f Ag Aw Ab Ac Al ng cg nw cw nb cb nc cc nl cl) (hno : M.rdy f ng nw nb nc nl = false) :
  Calls Try.prog 9 #[.agg #[.int .i64 f.last, .slice Ag ng cg, .slice Aw nw cw, .slice Ab nb cb, .slice Ac nc cc, .int .i64 f.ripe, .int .i64 f.late, .int .i64 f.trod, .slice Al nl cl], .int .u8 a, .int .u8 b, .int .u16 c] w fun e w' => e = .returned (.bool true) ∧ Ev w w' := by
 have HRD := hid (fun W (hE : Ev w W) => by have := ready_c f Ag Aw Ab Ac Al ng cg nw cw nb cb nc cc nl cl hl0 W (fun h => (hs h).ev hE); rw [hno] at this; exact this)
 clear hs hno
 go_enter Try.func9, Try.ntmps9
 go_wp2_with (first | (go_at_call 37; with_reducible refine (HRD.out _ (Ev.alloc (Ev.refl _) _)).mono ?_; rintro e w1 ⟨rfl, hb1⟩; have hG : Ev w w1 := (Ev.alloc (Ev.refl _) _).trans hb1; have Q0 := hid (hb1.heap (alloc1 w (.cells #[.int .i64 f.last, .slice Ag ng cg, .slice Aw nw cw, .slice Ab nb cb, .slice Ac nc cc, .int .i64 f.ripe, .int .i64 f.late, .int .i64 f.trod, .slice Al nl cl] 26)).1); obtain ⟨y0, y1, y2, y3, y4, y5, y6, y7, y8⟩ := cells9 Q0.out) | (go_at_call 14; with_reducible refine (awake_c _).mono ?_; rintro e w99 ⟨rfl, hb99⟩))
 go_ret
 exact ⟨rfl, hG.trans hb99⟩

theorem own_setR {w : World} {base e1 e2 s1 s2 n1 n2 g1 c1 : Nat} {v2 : Value} {x1 x2 : List Value} {j : Nat} {u : Value} (h1 : w.ownsRow base e1 s1 (.slice (some ⟨g1, 0, none⟩) n1 c1) n1 x1) (h2 : w.ownsRow base e2 s2 v2 n2 x2) (hne : e1 ≠ e2) : (w.setCell ⟨g1, j, none⟩ u).ownsRow base e2 s2 v2 n2 x2 := by
 rcases h1.2 with ⟨hv, _⟩ | ⟨g', cap', cur, hv, hb, hg, _⟩
 ·
  cases hv
 ·
  cases hv
  exact own_set h2 hg hne
theorem own_wideR {w : World} {base gx ng cG kx : Nat} {G : List M.Rg} {r : M.Rg} {v1 v2 : Int} (h : w.ownsRow base 87 2 (.slice (some ⟨gx, 0, none⟩) ng cG) ng (G.flatMap rgc)) (hk : kx < G.length) (e1 : v1 = r.lo) (e2 : v2 = r.hi) : ((w.setCell ⟨gx, kx * 2, none⟩ (.int .i64 v1)).setCell ⟨gx, kx * 2 + 1, none⟩ (.int .i64 v2)).ownsRow base 87 2 (.slice (some ⟨gx, 0, none⟩) ng cG) ng ((G.set kx r).flatMap rgc) := by
 subst e1
 subst e2
 have := own_putN (own_putN h (kx * 2) (.int .i64 r.lo)) (kx * 2 + 1) (.int .i64 r.hi)
 rcases rgc_set G kx r with h2 | h2
 ·
  rw [Nat.mul_comm kx 2] at this ⊢
  rw [← h2]
  exact this
 ·
  omega
theorem lkc_set : ∀ (L : List M.Lk) (k : Nat) (r : M.Lk) (lo hi : Int), L[k]? = some r → (((L.flatMap lkc).set (3 * k + 1) (.int .i64 lo)).set (3 * k + 2) (.int .i64 hi)) = (L.set k ⟨r.wk, ⟨lo, hi⟩⟩).flatMap lkc
 | [], k, r, lo, hi, h => by simp at h
 | x :: L, 0, r, lo, hi, h => by simp at h; subst h; simp [lkc]
 | x :: L, k + 1, r, lo, hi, h => by
  have := lkc_set L k r lo hi (by simpa using h)
  rw [show 3 * (k + 1) + 1 = 3 * k + 1 + 1 + 1 + 1 by omega, show 3 * (k + 1) + 2 = 3 * k + 2 + 1 + 1 + 1 by omega]
  simpa [lkc] using this
theorem own_wideL {w : World} {base gx nl cL kx : Nat} {L : List M.Lk} {r : M.Lk} {q : M.Rg} {v1 v2 : Int} (h : w.ownsRow base 90 3 (.slice (some ⟨gx, 0, none⟩) nl cL) nl (L.flatMap lkc)) (hk : L[kx]? = some r) (e1 : v1 = q.lo) (e2 : v2 = q.hi) : ((w.setCell ⟨gx, kx * 3 + 1, none⟩ (.int .i64 v1)).setCell ⟨gx, kx * 3 + 2, none⟩ (.int .i64 v2)).ownsRow base 90 3 (.slice (some ⟨gx, 0, none⟩) nl cL) nl ((L.set kx ⟨r.wk, q⟩).flatMap lkc) := by
 subst e1
 subst e2
 have := own_putN (own_putN h (kx * 3 + 1) (.int .i64 q.lo)) (kx * 3 + 2) (.int .i64 q.hi)
 rw [Nat.mul_comm kx 3] at this ⊢
 rw [lkc_set L kx r q.lo q.hi hk] at this
 exact this
theorem insideT_c (x y : M.Rg) (h : y.lo ≤ x.lo ∧ x.hi ≤ y.hi) (w : World) : Calls Try.prog 44 #[.agg #[.int .i64 x.lo, .int .i64 x.hi], .agg #[.int .i64 y.lo, .int .i64 y.hi]] w fun e w' => e = .returned (.bool true) ∧ Ev w w' := by
 have := inside_c x y w
 rw [show M.inside x y = true from by unfold M.inside; rw [Bool.and_eq_true, decide_eq_true_eq, decide_eq_true_eq]; exact h] at this
 exact this
theorem readyW_c (f : M.Cf) (G : List M.Rg) (WW : List Int) (L : List M.Lk) (Ag Aw Ab Ac Al : Option Addr) (ng cg nw cw nb cb nc cc nl cl : Nat) (hl0 : -9223372036854775808 ≤ f.last) (w : World) (hs : M.small ng nw nb nc nl → CS w w.heap.size (M.wid f G WW L) Ag Aw Ab Ac Al ng cg nw cw nb cb nc cc nl cl) :
  Calls Try.prog 37 #[.agg #[.int .i64 f.last, .slice Ag ng cg, .slice Aw nw cw, .slice Ab nb cb, .slice Ac nc cc, .int .i64 f.ripe, .int .i64 f.late, .int .i64 f.trod, .slice Al nl cl]] w fun e w' => e = .returned (.bool (M.rdy (M.wid f G WW L) ng nw nb nc nl)) ∧ Ev w w' := ready_c (M.wid f G WW L) Ag Aw Ab Ac Al ng cg nw cw nb cb nc cc nl cl hl0 w hs
theorem FieldW_c (f : M.Cf) (G : List M.Rg) (WW : List Int) (L : List M.Lk) (Ag Aw Ab Ac Al : Option Addr) (ng cg nw cw nb cb nc cc nl cl : Nat) (hng : ng ≤ 1000) (hnw : nw ≤ 1000) (hnb : nb ≤ 1000) (hnc : nc ≤ 1000) (hnl : nl ≤ 1000) (w : World) (hs : CS w w.heap.size (M.wid f G WW L) Ag Aw Ab Ac Al ng cg nw cw nb cb nc cc nl cl) :
  Calls Try.prog 16 #[.agg #[.int .i64 f.last, .slice Ag ng cg, .slice Aw nw cw, .slice Ab nb cb, .slice Ac nc cc, .int .i64 f.ripe, .int .i64 f.late, .int .i64 f.trod, .slice Al nl cl]] w fun e w' => (∃ Bg dg Bw dw Bb db Bc dc Bl dl, e = .returned (.agg #[.int .i64 f.last, .slice Bg ng dg, .slice Bw nw dw, .slice Bb nb db, .slice Bc nc dc, .int .i64 f.ripe, .int .i64 f.late, .int .i64 f.trod, .slice Bl nl dl]) ∧ CS w' w'.heap.size (M.wid f G WW L) Bg Bw Bb Bc Bl ng dg nw dw nb db nc dc nl dl) ∧ Ev w w' := Field_c (M.wid f G WW L) Ag Aw Ab Ac Al ng cg nw cw nb cb nc cc nl cl hng hnw hnb hnc hnl w hs
theorem LeaveW_ok (f : M.Cf) (G : List M.Rg) (WW : List Int) (L : List M.Lk) (Ag Aw Ab Ac Al : Option Addr) (ng cg nw cw nb cb nc cc nl cl : Nat) (hl0 : -9223372036854775808 ≤ f.last) (w : World) (hs : CS w w.heap.size (M.wid f G WW L) Ag Aw Ab Ac Al ng cg nw cw nb cb nc cc nl cl) (h0 : M.check (M.wid f G WW L) = 0) :
  Calls Try.prog 31 #[.agg #[.int .i64 f.last, .slice Ag ng cg, .slice Aw nw cw, .slice Ab nb cb, .slice Ac nc cc, .int .i64 f.ripe, .int .i64 f.late, .int .i64 f.trod, .slice Al nl cl]] w fun e w' => (∃ B d, e = .returned (.tuple #[.slice B (M.shortest (M.spares (M.wid f G WW L)) nl).length d, .int .i64 0]) ∧ Sl ics 1 w' w'.heap.size B (M.shortest (M.spares (M.wid f G WW L)) nl).length d (M.shortest (M.spares (M.wid f G WW L)) nl)) ∧ Ev w w' := Leave_ok (M.wid f G WW L) Ag Aw Ab Ac Al ng cg nw cw nb cb nc cc nl cl hl0 w hs h0
theorem WorthW_ok (f : M.Cf) (G : List M.Rg) (WW : List Int) (L : List M.Lk) (Ag Aw Ab Ac Al : Option Addr) (ng cg nw cw nb cb nc cc nl cl : Nat) (P : Option Addr) (pn pc : Nat) (plan : List Int) (hl0 : -9223372036854775808 ≤ f.last) (w : World) (hs : CS w w.heap.size (M.wid f G WW L) Ag Aw Ab Ac Al ng cg nw cw nb cb nc cc nl cl) (hp : Sl ics 1 w w.heap.size P pn pc plan) (h0 : M.begin (M.wid f G WW L) (M.isPlan f plan) = 0) :
  Calls Try.prog 29 #[.agg #[.int .i64 f.last, .slice Ag ng cg, .slice Aw nw cw, .slice Ab nb cb, .slice Ac nc cc, .int .i64 f.ripe, .int .i64 f.late, .int .i64 f.trod, .slice Al nl cl], .slice P pn pc] w fun e w' => e = .returned (.tuple #[.agg #[.int .i64 (M.worth (M.wid f G WW L) plan).lo, .int .i64 (M.worth (M.wid f G WW L) plan).hi], .int .i64 0]) ∧ Ev w w' := Worth_ok (M.wid f G WW L) Ag Aw Ab Ac Al ng cg nw cw nb cb nc cc nl cl P pn pc plan hl0 w hs hp h0
theorem BestW_ok (f : M.Cf) (G : List M.Rg) (WW : List Int) (L : List M.Lk) (Ag Aw Ab Ac Al : Option Addr) (ng cg nw cw nb cb nc cc nl cl : Nat) (hl0 : -9223372036854775808 ≤ f.last) (w : World) (hs : CS w w.heap.size (M.wid f G WW L) Ag Aw Ab Ac Al ng cg nw cw nb cb nc cc nl cl) (h0 : M.begin (M.wid f G WW L) true = 0) :
  Calls Try.prog 35 #[.agg #[.int .i64 f.last, .slice Ag ng cg, .slice Aw nw cw, .slice Ab nb cb, .slice Ac nc cc, .int .i64 f.ripe, .int .i64 f.late, .int .i64 f.trod, .slice Al nl cl]] w fun e w' => (∃ B d, e = .returned (.tuple #[.slice B (M.best (M.wid f G WW L) (M.truths (M.wid f G WW L))).1.length d, .int .i64 (M.best (M.wid f G WW L) (M.truths (M.wid f G WW L))).2, .int .i64 0]) ∧ Sl ics 1 w' w'.heap.size B (M.best (M.wid f G WW L) (M.truths (M.wid f G WW L))).1.length d (M.best (M.wid f G WW L) (M.truths (M.wid f G WW L))).1) ∧ Ev w w' := Best_ok (M.wid f G WW L) Ag Aw Ab Ac Al ng cg nw cw nb cb nc cc nl cl hl0 w hs h0
theorem nil_table : ((List.range 6).all fun n => (List.range (2 ^ n)).all fun c => decide ((M.bits c).length = 0 → c = 0)) = true := by decide +kernel
theorem M.with_same (f : M.Cf) : M.withL f f.looks = f := by cases f; rfl
theorem M.leave_nil {f : M.Cf} (h : M.check f = 0) {n : Nat} (hl : f.looks.length = n) (h0 : (M.shortest (M.spares f) n).length = 0) : M.truths f ≠ [] := by
 have n5 : n ≤ 5 := by rw [← hl]; exact (M.check0 h).2.2.1
 obtain ⟨c, hc, hfit, he⟩ := M.leave_bits h hl
 have t0 := nil_table
 rw [List.all_eq_true] at t0
 have t1 := t0 n (List.mem_range.2 (by omega))
 rw [List.all_eq_true] at t1
 have hc0 := of_decide_eq_true (t1 c (List.mem_range.2 hc)) (by rw [← he]; exact h0)
 subst hc0
 have hb : M.butB n 0 = 2 ^ n - 1 := by unfold M.butB; simp
 rw [hb, M.keepK_low, Nat.sub_zero, ← hl, List.take_length] at hfit
 intro ht
 have := (M.truths_fit f f.looks).1 (by rw [M.with_same]; exact ht)
 rw [hfit] at this
 cases this
theorem M.begin_is {f : M.Cf} {nm : Bool} (h : M.check f = 0) (hn : nm = true) (ht : M.truths f ≠ []) : M.begin f nm = 0 := by
 unfold M.begin
 rw [if_neg (by simp [h]), hn, if_neg (by simp), if_neg ht]
set_option maxRecDepth 1000000 in
set_option maxHeartbeats 16000000 in
theorem cropWider_yes (f : M.Cf) (Ag Aw Ab Ac Al : Option Addr) (ng cg nw cw nb cb nc cc nl cl : Nat) (hl0 : -9223372036854775808 ≤ f.last) (a b c : Int) (a0 : 0 ≤ a) (a1 : a < 256) (b0 : 0 ≤ b) (b1 : b < 256) (c0 : 0 ≤ c) (c1 : c < 65536) (w : World) (HCS : Hid (CS w w.heap.size f Ag Aw Ab Ac Al ng cg nw cw nb cb nc cc nl cl)) (hr : M.rdy f ng nw nb nc nl = true) (hsm : M.small ng nw nb nc nl) (h0 : M.check f = 0) :
  Calls Try.prog 9 #[.agg #[.int .i64 f.last, .slice Ag ng cg, .slice Aw nw cw, .slice Ab nb cb, .slice Ac nc cc, .int .i64 f.ripe, .int .i64 f.late, .int .i64 f.trod, .slice Al nl cl], .int .u8 a, .int .u8 b, .int .u16 c] w fun e w' => e = .returned (.bool true) ∧ Ev w w' := by
 obtain ⟨i0, hi0, hi1, hi2, hi3⟩ := info_parts info3
 obtain ⟨j0, hj0, hj1, hj2, hj3⟩ := info_parts infoRR
 obtain ⟨k0, hk0, hk1, hk2, hk3⟩ := info_parts infoRL
 obtain ⟨s0, s1, s2, s3, s4⟩ := hsm
 have HRD := hid (fun W (hE : Ev w W) => by have := ready_c f Ag Aw Ab Ac Al ng cg nw cw nb cb nc cc nl cl hl0 W (fun _ => HCS.out.ev hE); rw [hr] at this; exact this)
 have HLR := hid (show Sl0 rgc 2 w w.heap.size Ag ng f.gr from ⟨HCS.out.g.len, HCS.out.g.cells⟩)
 have HLI := hid (show Sl0 ics 1 w w.heap.size Aw nw f.wet from ⟨HCS.out.w_.len, HCS.out.w_.cells⟩)
 have HLK := hid (show Sl0 lkc 3 w w.heap.size Al nl f.looks from ⟨HCS.out.l.len, HCS.out.l.cells⟩)
 clear hr
 go_enter Try.func9, Try.ntmps9
 go_upto_region 3 with (go_at_call 37; with_reducible refine (HRD.out _ (Ev.alloc (Ev.refl _) _)).mono ?_; rintro e w1 ⟨rfl, hb1⟩; have hG : Ev w w1 := (Ev.alloc (Ev.refl _) _).trans hb1; have Q0 := hid (hb1.heap (alloc1 w (.cells #[.int .i64 f.last, .slice Ag ng cg, .slice Aw nw cw, .slice Ab nb cb, .slice Ac nc cc, .int .i64 f.ripe, .int .i64 f.late, .int .i64 f.trod, .slice Al nl cl] 26)).1); obtain ⟨y0, y1, y2, y3, y4, y5, y6, y7, y8⟩ := cells9 Q0.out)
 go_upto_region 4 with fail
 generalize hW2 : World.alloc w1 _ = W2
 have hE2 : Ev w1 W2 := by rw [← hW2]; exact Ev.alloc (Ev.refl _) _
 have hal := alloc1 w1 (.cells #[.int .i64 f.last, .slice Ag ng cg, .slice Aw nw cw, .slice Ab nb cb, .slice Ac nc cc, .int .i64 f.ripe, .int .i64 f.late, .int .i64 f.trod, .slice Al nl cl] 26)
 rw [hW2] at hal
 have HC2 := hid hal.1
 have hs2 := hal.2
 have Q0c := hid (hE2.heap Q0.out)
 have HEW := hid (hG.trans hE2)
 have hlp : w.heap.size < w1.heap.size := heap_lt Q0.out
 have hnp : w.heap.size ≠ w1.heap.size := by omega
 have hp2 : w1.heap.size < W2.heap.size := by omega
 clear hal hW2 hE2 Q0 y0 y1 y2 y3 y4 y5 y6 y7 y8 hG hs2
 generalize w1.heap.size = p at HC2 hlp hnp hp2 ⊢
 obtain ⟨y0, y1, y2, y3, y4, y5, y6, y7, y8⟩ := cells9 Q0c.out
 have lbx := heap_lt Q0c.out
 have HSE : Hid (∀ w', Ev W2 w' → (∀ o, w'.cell? ⟨w.heap.size, o, none⟩ = W2.cell? ⟨w.heap.size, o, none⟩)) := hid (fun w' h => fun o => h.cells.1 _ o lbx)
 go_cut [] (fun W => ∃ (VG : Option Addr) (cG : Nat) (VW : Option Addr) (cW : Nat) (VL : Option Addr) (cL : Nat), Ev w W ∧ Hid (W.heap[w.heap.size]? = some (.cells #[.int .i64 f.last, .slice Ag ng cg, .slice Aw nw cw, .slice Ab nb cb, .slice Ac nc cc, .int .i64 f.ripe, .int .i64 f.late, .int .i64 f.trod, .slice Al nl cl] 26 (0, 0))) ∧ Hid (W.heap[p]? = some (.cells #[.int .i64 f.last, .slice VG ng cG, .slice VW nw cW, .slice Ab nb cb, .slice Ac nc cc, .int .i64 f.ripe, .int .i64 f.late, .int .i64 f.trod, .slice VL nl cL] 26 (0, 0))) ∧ Hid (W.ownsRow W2.heap.size 87 2 (.slice VG ng cG) ng (f.gr.flatMap rgc)) ∧ Hid (W.ownsRow W2.heap.size 3 1 (.slice VW nw cW) nw (f.wet.flatMap ics)) ∧ Hid (W.ownsRow W2.heap.size 90 3 (.slice VL nl cL) nl (f.looks.flatMap lkc)))
 case first =>
  refine wp_region_held_drew (S := fun w' => (∀ o, w'.cell? ⟨w.heap.size, o, none⟩ = W2.cell? ⟨w.heap.size, o, none⟩)) (by kernel_rfl) (fun o => rfl) (fun hHeld => ?_)
  refine tkH 1 (some 37) ?_
  (try simp only [Act.put, sA, sB, sC])
  refine tkH 2 (some 38) ?_
  (try simp only [Act.put, sA, sB, sC])
  refine tkH 5 (some 41) ?_
  (try simp only [Act.put, sA, sB, sC])
  refine tkH 6 (some 42) ?_
  (try simp only [Act.put, sA, sB, sC])
  refine tkH 9 (some 45) ?_
  (try simp only [Act.put, sA, sB, sC])
  refine tkH 10 (some 46) ?_
  (try simp only [Act.put, sA, sB, sC])
  refine wpAnyH_name (fun O q hO hq => ?_)
  have N_0_4_8_3 : ∀ (W : World) (g0 : Nat) (V3 : Option Addr) (cx3 : Nat) (g4 : Nat) (V7 : Option Addr) (cx7 : Nat) (g8 : Nat) (V11 : Option Addr) (cx11 : Nat), Ev W2 W → Hid (W.ownsRow W2.heap.size 87 2 (.slice V3 ng cx3) ng (f.gr.flatMap rgc)) → Hid (W.ownsRow W2.heap.size 3 1 (.slice V7 nw cx7) nw (f.wet.flatMap ics)) → Hid (W.ownsRow W2.heap.size 90 3 (.slice V11 nl cx11) nl (f.looks.flatMap lkc)) → wpAnyH Try.prog .any O q (fun w' => (∀ o, w'.cell? ⟨w.heap.size, o, none⟩ = W2.cell? ⟨w.heap.size, o, none⟩)) 5 #[true, true, true, true, true, true, true, true, true, true, true, true, true, false, false, false, false, false] { tmps := #[.agg #[.int .i64 f.last, .slice Ag ng cg, .slice Aw nw cw, .slice Ab nb cb, .slice Ac nc cc, .int .i64 f.ripe, .int .i64 f.late, .int .i64 f.trod, .slice Al nl cl], .int .u8 a, .int .u8 b, .int .u16 c, .pointer (some ⟨w.heap.size, 0, none⟩), undef, undef, undef, .bool false, .pointer (some ⟨p, 0, none⟩), undef, undef, undef, undef, undef, undef, undef, undef, undef, undef, undef, undef, undef, undef, undef, undef, undef, undef, undef, undef, undef, .agg #[.int .i64 f.last, .slice Ag ng cg, .slice Aw nw cw, .slice Ab nb cb, .slice Ac nc cc, .int .i64 f.ripe, .int .i64 f.late, .int .i64 f.trod, .slice Al nl cl], .bool true, .bool false, undef, .agg #[.int .i64 f.last, .slice Ag ng cg, .slice Aw nw cw, .slice Ab nb cb, .slice Ac nc cc, .int .i64 f.ripe, .int .i64 f.late, .int .i64 f.trod, .slice Al nl cl], .slice (some ⟨g0, 0, none⟩) 0 0, .pointer (some ⟨w.heap.size, 1, none⟩), .slice Ag ng cg, .slice V3 ng cx3, .slice (some ⟨g4, 0, none⟩) 0 0, .pointer (some ⟨w.heap.size, 2, none⟩), .slice Aw nw cw, .slice V7 nw cx7, .slice (some ⟨g8, 0, none⟩) 0 0, .pointer (some ⟨w.heap.size, 8, none⟩), .slice Al nl cl, .slice V11 nl cx11, .pointer (some ⟨p, 1, none⟩), undef, undef, undef, undef, undef, undef, undef, undef, undef, undef, undef, undef, undef, undef, undef, undef, undef, undef, undef, undef, undef, undef, undef, undef, undef, undef, undef, undef, undef, undef, undef, undef, undef, undef, undef, undef, undef, undef, undef, undef, undef, undef, undef, undef, undef, undef, undef, undef, undef, undef, undef, undef, undef, undef, undef, undef, undef, undef, undef, undef, undef, undef, undef, undef, undef, undef, undef, undef, undef, undef, undef, undef, undef, undef, undef, undef, undef, undef, undef, undef, undef, undef, undef, undef, undef, undef, undef, undef, undef, undef, undef, undef, undef, undef, undef, undef, undef, undef, undef, undef, undef, undef, undef, undef, undef, undef, undef, undef, undef, undef, undef, undef, undef, undef, undef, undef, undef, undef, undef, undef, undef, undef, undef, undef, undef, undef, undef, undef, undef, undef, undef, undef, undef, undef, undef, undef, undef, undef, undef, undef, undef, undef, undef, undef, undef, undef, undef, undef, undef, undef, undef, undef, undef, undef, undef, undef, undef, undef, undef, undef, undef, undef, undef, undef, undef, undef, undef, undef, undef, undef, undef, undef, undef, undef, undef, undef, undef, undef, undef, undef, undef, undef, undef, undef], defers := [] } W := by
   intro W g0 V3 cx3 g4 V7 cx7 g8 V11 cx11 hE fr0 fr4 fr8
   have h1 := hO.out
   have h2 := hq.out
   subst h1
   subst h2
   refine wpAnyH_one (i := 13) rfl (by kernel_rfl) (by rfl) (fun K hK => ?_)
   have hxp := hid (hE.heap HC2.out)
   obtain ⟨y0, y1, y2, y3, y4, y5, y6, y7, y8⟩ := cells9 hxp.out
   obtain ⟨f0, f1, f2, f3, f4, f5, f6, f7, f8⟩ := frz9 hxp.out
   go_simp
   generalize hX13 : World.setCell W _ _ = X13
   have HX13 := hid (show X13.heap[p]? = some (.cells #[.int .i64 f.last, .slice V3 ng cx3, .slice Aw nw cw, .slice Ab nb cb, .slice Ac nc cc, .int .i64 f.ripe, .int .i64 f.late, .int .i64 f.trod, .slice Al nl cl] 26 (0, 0)) from by rw [← hX13, set_heap_same hxp.out]; rfl)
   have HQ13 := hid (show X13.heap[w.heap.size]? = some (.cells #[.int .i64 f.last, .slice Ag ng cg, .slice Aw nw cw, .slice Ab nb cb, .slice Ac nc cc, .int .i64 f.ripe, .int .i64 f.late, .int .i64 f.trod, .slice Al nl cl] 26 (0, 0)) from by rw [← hX13]; exact set_heap (hE.heap Q0c.out) hnp)
   have HY13 := hid (show Ev w X13 from by rw [← hX13]; exact Ev.setCell (p := ⟨p, 1, none⟩) (HEW.out.trans hE) (show w.heap.size ≤ p by omega) _)
   have HS13 := hid (show ∀ o, X13.cell? ⟨w.heap.size, o, none⟩ = W2.cell? ⟨w.heap.size, o, none⟩ from fun o => by rw [← hX13]; exact (cell_set_ne hnp).trans (HSE.out _ hE o))
   have fr0' := hid (show X13.ownsRow _ _ _ _ _ _ from by rw [← hX13]; exact own_set fr0.out hxp.out (by decide))
   have fr4' := hid (show X13.ownsRow _ _ _ _ _ _ from by rw [← hX13]; exact own_set fr4.out hxp.out (by decide))
   have fr8' := hid (show X13.ownsRow _ _ _ _ _ _ from by rw [← hX13]; exact own_set fr8.out hxp.out (by decide))
   clear hX13 hxp y0 y1 y2 y3 y4 y5 y6 y7 y8 f0 f1 f2 f3 f4 f5 f6 f7 f8
   refine hK.out _ _ (HS13.out) (fun hHeld => ?_)
   clear hK K
   (try simp only [Act.put, sA, sB, sC])
   refine tkH 14 (some 49) ?_
   (try simp only [Act.put, sA, sB, sC])
   refine wpAnyH_one (i := 15) rfl (by kernel_rfl) (by rfl) (fun K hK => ?_)
   have hxp := hid HX13.out
   obtain ⟨y0, y1, y2, y3, y4, y5, y6, y7, y8⟩ := cells9 hxp.out
   obtain ⟨f0, f1, f2, f3, f4, f5, f6, f7, f8⟩ := frz9 hxp.out
   go_simp
   generalize hX15 : World.setCell X13 _ _ = X15
   have HX15 := hid (show X15.heap[p]? = some (.cells #[.int .i64 f.last, .slice V3 ng cx3, .slice V7 nw cx7, .slice Ab nb cb, .slice Ac nc cc, .int .i64 f.ripe, .int .i64 f.late, .int .i64 f.trod, .slice Al nl cl] 26 (0, 0)) from by rw [← hX15, set_heap_same hxp.out]; rfl)
   have HQ15 := hid (show X15.heap[w.heap.size]? = some (.cells #[.int .i64 f.last, .slice Ag ng cg, .slice Aw nw cw, .slice Ab nb cb, .slice Ac nc cc, .int .i64 f.ripe, .int .i64 f.late, .int .i64 f.trod, .slice Al nl cl] 26 (0, 0)) from by rw [← hX15]; exact set_heap HQ13.out hnp)
   have HY15 := hid (show Ev w X15 from by rw [← hX15]; exact Ev.setCell (p := ⟨p, 2, none⟩) HY13.out (show w.heap.size ≤ p by omega) _)
   have HS15 := hid (show ∀ o, X15.cell? ⟨w.heap.size, o, none⟩ = W2.cell? ⟨w.heap.size, o, none⟩ from fun o => by rw [← hX15]; exact (cell_set_ne hnp).trans (HS13.out o))
   have fr0'' := hid (show X15.ownsRow _ _ _ _ _ _ from by rw [← hX15]; exact own_set fr0'.out hxp.out (by decide))
   have fr4'' := hid (show X15.ownsRow _ _ _ _ _ _ from by rw [← hX15]; exact own_set fr4'.out hxp.out (by decide))
   have fr8'' := hid (show X15.ownsRow _ _ _ _ _ _ from by rw [← hX15]; exact own_set fr8'.out hxp.out (by decide))
   clear hX15 hxp y0 y1 y2 y3 y4 y5 y6 y7 y8 f0 f1 f2 f3 f4 f5 f6 f7 f8
   refine hK.out _ _ (HS15.out) (fun hHeld => ?_)
   clear hK K
   (try simp only [Act.put, sA, sB, sC])
   refine tkH 16 (some 50) ?_
   (try simp only [Act.put, sA, sB, sC])
   refine wpAnyH_one (i := 17) rfl (by kernel_rfl) (by rfl) (fun K hK => ?_)
   have hxp := hid HX15.out
   obtain ⟨y0, y1, y2, y3, y4, y5, y6, y7, y8⟩ := cells9 hxp.out
   obtain ⟨f0, f1, f2, f3, f4, f5, f6, f7, f8⟩ := frz9 hxp.out
   go_simp
   generalize hX17 : World.setCell X15 _ _ = X17
   have HX17 := hid (show X17.heap[p]? = some (.cells #[.int .i64 f.last, .slice V3 ng cx3, .slice V7 nw cx7, .slice Ab nb cb, .slice Ac nc cc, .int .i64 f.ripe, .int .i64 f.late, .int .i64 f.trod, .slice V11 nl cx11] 26 (0, 0)) from by rw [← hX17, set_heap_same hxp.out]; rfl)
   have HQ17 := hid (show X17.heap[w.heap.size]? = some (.cells #[.int .i64 f.last, .slice Ag ng cg, .slice Aw nw cw, .slice Ab nb cb, .slice Ac nc cc, .int .i64 f.ripe, .int .i64 f.late, .int .i64 f.trod, .slice Al nl cl] 26 (0, 0)) from by rw [← hX17]; exact set_heap HQ15.out hnp)
   have HY17 := hid (show Ev w X17 from by rw [← hX17]; exact Ev.setCell (p := ⟨p, 8, none⟩) HY15.out (show w.heap.size ≤ p by omega) _)
   have HS17 := hid (show ∀ o, X17.cell? ⟨w.heap.size, o, none⟩ = W2.cell? ⟨w.heap.size, o, none⟩ from fun o => by rw [← hX17]; exact (cell_set_ne hnp).trans (HS15.out o))
   have fr0''' := hid (show X17.ownsRow _ _ _ _ _ _ from by rw [← hX17]; exact own_set fr0''.out hxp.out (by decide))
   have fr4''' := hid (show X17.ownsRow _ _ _ _ _ _ from by rw [← hX17]; exact own_set fr4''.out hxp.out (by decide))
   have fr8''' := hid (show X17.ownsRow _ _ _ _ _ _ from by rw [← hX17]; exact own_set fr8''.out hxp.out (by decide))
   clear hX17 hxp y0 y1 y2 y3 y4 y5 y6 y7 y8 f0 f1 f2 f3 f4 f5 f6 f7 f8
   refine hK.out _ _ (HS17.out) (fun hHeld => ?_)
   clear hK K
   (try simp only [Act.put, sA, sB, sC])
   refine wpAnyH_done (by kernel_rfl) ?_ _
   go_wp2_with fail
   go_meet
   exact ⟨V3, cx3, V7, cx7, V11, cx11, HY17.out, HQ17, HX17, fr0''', fr4''', fr8'''⟩
  have N_0_4_8_2 : ∀ (W : World) (g0 : Nat) (V3 : Option Addr) (cx3 : Nat) (g4 : Nat) (V7 : Option Addr) (cx7 : Nat) (g8 : Nat), Ev W2 W → Hid (W.ownsRow W2.heap.size 87 2 (.slice V3 ng cx3) ng (f.gr.flatMap rgc)) → Hid (W.ownsRow W2.heap.size 3 1 (.slice V7 nw cx7) nw (f.wet.flatMap ics)) → Hid (W.ownsRow W2.heap.size 90 3 (.slice (some ⟨g8, 0, none⟩) 0 0) 0 []) → wpAnyH Try.prog .any O q (fun w' => (∀ o, w'.cell? ⟨w.heap.size, o, none⟩ = W2.cell? ⟨w.heap.size, o, none⟩)) 6 #[true, true, true, true, true, true, true, true, true, true, true, false, true, false, false, false, false, false] { tmps := #[.agg #[.int .i64 f.last, .slice Ag ng cg, .slice Aw nw cw, .slice Ab nb cb, .slice Ac nc cc, .int .i64 f.ripe, .int .i64 f.late, .int .i64 f.trod, .slice Al nl cl], .int .u8 a, .int .u8 b, .int .u16 c, .pointer (some ⟨w.heap.size, 0, none⟩), undef, undef, undef, .bool false, .pointer (some ⟨p, 0, none⟩), undef, undef, undef, undef, undef, undef, undef, undef, undef, undef, undef, undef, undef, undef, undef, undef, undef, undef, undef, undef, undef, .agg #[.int .i64 f.last, .slice Ag ng cg, .slice Aw nw cw, .slice Ab nb cb, .slice Ac nc cc, .int .i64 f.ripe, .int .i64 f.late, .int .i64 f.trod, .slice Al nl cl], .bool true, .bool false, undef, .agg #[.int .i64 f.last, .slice Ag ng cg, .slice Aw nw cw, .slice Ab nb cb, .slice Ac nc cc, .int .i64 f.ripe, .int .i64 f.late, .int .i64 f.trod, .slice Al nl cl], .slice (some ⟨g0, 0, none⟩) 0 0, .pointer (some ⟨w.heap.size, 1, none⟩), .slice Ag ng cg, .slice V3 ng cx3, .slice (some ⟨g4, 0, none⟩) 0 0, .pointer (some ⟨w.heap.size, 2, none⟩), .slice Aw nw cw, .slice V7 nw cx7, .slice (some ⟨g8, 0, none⟩) 0 0, .pointer (some ⟨w.heap.size, 8, none⟩), .slice Al nl cl, undef, .pointer (some ⟨p, 1, none⟩), undef, undef, undef, undef, undef, undef, undef, undef, undef, undef, undef, undef, undef, undef, undef, undef, undef, undef, undef, undef, undef, undef, undef, undef, undef, undef, undef, undef, undef, undef, undef, undef, undef, undef, undef, undef, undef, undef, undef, undef, undef, undef, undef, undef, undef, undef, undef, undef, undef, undef, undef, undef, undef, undef, undef, undef, undef, undef, undef, undef, undef, undef, undef, undef, undef, undef, undef, undef, undef, undef, undef, undef, undef, undef, undef, undef, undef, undef, undef, undef, undef, undef, undef, undef, undef, undef, undef, undef, undef, undef, undef, undef, undef, undef, undef, undef, undef, undef, undef, undef, undef, undef, undef, undef, undef, undef, undef, undef, undef, undef, undef, undef, undef, undef, undef, undef, undef, undef, undef, undef, undef, undef, undef, undef, undef, undef, undef, undef, undef, undef, undef, undef, undef, undef, undef, undef, undef, undef, undef, undef, undef, undef, undef, undef, undef, undef, undef, undef, undef, undef, undef, undef, undef, undef, undef, undef, undef, undef, undef, undef, undef, undef, undef, undef, undef, undef, undef, undef, undef, undef, undef, undef, undef, undef, undef, undef, undef, undef, undef, undef, undef, undef, undef, undef], defers := [] } W := by
   intro W g0 V3 cx3 g4 V7 cx7 g8 hE fr0 fr4 fr8
   refine wpAnyH_ready (rs := [11]) (by rw [hO.out]; kernel_rfl) (by simp) ?_
   refine AllReadyH.cons (by rw [hO.out]; rfl) (fun K hK => ?_) (AllReadyH.nil)
   refine step_append_any (enc := lkc) rfl (.tmp 44) (.tmp 46) 24 rfl W2.heap.size 90 k0 _ 3 24 Try.underlying24 hk0 hk1 hk2 hk3 rfl (by decide) _ 0 [] rfl fr8.out Al nl cl f.looks _ rfl (HLK.out.ev (HEW.out.trans hE)) (lkc_len _) (lkc_one' _) (by unfold maxLen; omega) (by omega) (hE.size) ?_
   intro v' w9 hown' hgrow
   have hown2 : w9.ownsRow W2.heap.size 90 3 v' nl (f.looks.flatMap lkc) := by simpa using hown'
   obtain ⟨V9, cx9, rfl⟩ := own_form hown2
   have hr9 := hid hown2
   have hx9 : Ev W2 w9 := Ev.grown hE hgrow (fun k e => (fr8.out.lt k e).1)
   refine hK.out _ _ (HSE.out _ hx9) (fun hHeld => ?_)
   (try simp only [Act.put, sA, sB, sC])
   exact N_0_4_8_3 _ g0 V3 cx3 g4 V7 cx7 g8 V9 cx9 hx9 (hid (fr0.out.kept hgrow (own_ne fr8.out fr0.out (by decide)))) (hid (fr4.out.kept hgrow (own_ne fr8.out fr4.out (by decide)))) hr9
  have N_0_4_2 : ∀ (W : World) (g0 : Nat) (V3 : Option Addr) (cx3 : Nat) (g4 : Nat) (V7 : Option Addr) (cx7 : Nat), Ev W2 W → Hid (W.ownsRow W2.heap.size 87 2 (.slice V3 ng cx3) ng (f.gr.flatMap rgc)) → Hid (W.ownsRow W2.heap.size 3 1 (.slice V7 nw cx7) nw (f.wet.flatMap ics)) → wpAnyH Try.prog .any O q (fun w' => (∀ o, w'.cell? ⟨w.heap.size, o, none⟩ = W2.cell? ⟨w.heap.size, o, none⟩)) 7 #[true, true, true, true, true, true, true, true, false, true, true, false, true, false, false, false, false, false] { tmps := #[.agg #[.int .i64 f.last, .slice Ag ng cg, .slice Aw nw cw, .slice Ab nb cb, .slice Ac nc cc, .int .i64 f.ripe, .int .i64 f.late, .int .i64 f.trod, .slice Al nl cl], .int .u8 a, .int .u8 b, .int .u16 c, .pointer (some ⟨w.heap.size, 0, none⟩), undef, undef, undef, .bool false, .pointer (some ⟨p, 0, none⟩), undef, undef, undef, undef, undef, undef, undef, undef, undef, undef, undef, undef, undef, undef, undef, undef, undef, undef, undef, undef, undef, .agg #[.int .i64 f.last, .slice Ag ng cg, .slice Aw nw cw, .slice Ab nb cb, .slice Ac nc cc, .int .i64 f.ripe, .int .i64 f.late, .int .i64 f.trod, .slice Al nl cl], .bool true, .bool false, undef, .agg #[.int .i64 f.last, .slice Ag ng cg, .slice Aw nw cw, .slice Ab nb cb, .slice Ac nc cc, .int .i64 f.ripe, .int .i64 f.late, .int .i64 f.trod, .slice Al nl cl], .slice (some ⟨g0, 0, none⟩) 0 0, .pointer (some ⟨w.heap.size, 1, none⟩), .slice Ag ng cg, .slice V3 ng cx3, .slice (some ⟨g4, 0, none⟩) 0 0, .pointer (some ⟨w.heap.size, 2, none⟩), .slice Aw nw cw, .slice V7 nw cx7, undef, .pointer (some ⟨w.heap.size, 8, none⟩), .slice Al nl cl, undef, .pointer (some ⟨p, 1, none⟩), undef, undef, undef, undef, undef, undef, undef, undef, undef, undef, undef, undef, undef, undef, undef, undef, undef, undef, undef, undef, undef, undef, undef, undef, undef, undef, undef, undef, undef, undef, undef, undef, undef, undef, undef, undef, undef, undef, undef, undef, undef, undef, undef, undef, undef, undef, undef, undef, undef, undef, undef, undef, undef, undef, undef, undef, undef, undef, undef, undef, undef, undef, undef, undef, undef, undef, undef, undef, undef, undef, undef, undef, undef, undef, undef, undef, undef, undef, undef, undef, undef, undef, undef, undef, undef, undef, undef, undef, undef, undef, undef, undef, undef, undef, undef, undef, undef, undef, undef, undef, undef, undef, undef, undef, undef, undef, undef, undef, undef, undef, undef, undef, undef, undef, undef, undef, undef, undef, undef, undef, undef, undef, undef, undef, undef, undef, undef, undef, undef, undef, undef, undef, undef, undef, undef, undef, undef, undef, undef, undef, undef, undef, undef, undef, undef, undef, undef, undef, undef, undef, undef, undef, undef, undef, undef, undef, undef, undef, undef, undef, undef, undef, undef, undef, undef, undef, undef, undef, undef, undef, undef, undef, undef, undef, undef, undef, undef, undef, undef, undef, undef, undef, undef, undef], defers := [] } W := by
   intro W g0 V3 cx3 g4 V7 cx7 hE fr0 fr4
   refine wpAnyH_ready (rs := [8]) (by rw [hO.out]; kernel_rfl) (by simp) ?_
   refine AllReadyH.cons (by rw [hO.out]; rfl) (fun K hK => ?_) (AllReadyH.nil)
   go_simp
   generalize hW9 : World.alloc W _ = w9
   have hE8 : Ev W w9 := by rw [← hW9]; exact Ev.alloc (Ev.refl _) _
   have hx9 : Ev W2 w9 := hE.trans hE8
   have hr9 := hid (show w9.ownsRow W2.heap.size 90 3 (.slice (some ⟨W.heap.size, 0, none⟩) 0 0) 0 [] from by rw [← hW9]; exact World.ownsRow_lit W #[] 0 hE.size (by decide) rfl)
   clear hW9
   refine hK.out _ _ (HSE.out _ hx9) (fun hHeld => ?_)
   (try simp only [Act.put, sA, sB, sC])
   exact N_0_4_8_2 _ g0 V3 cx3 g4 V7 cx7 _ hx9 (hid (fr0.out.ev hE8)) (hid (fr4.out.ev hE8)) hr9
  have N_0_4_8_1 : ∀ (W : World) (g0 : Nat) (V3 : Option Addr) (cx3 : Nat) (g4 : Nat) (g8 : Nat), Ev W2 W → Hid (W.ownsRow W2.heap.size 87 2 (.slice V3 ng cx3) ng (f.gr.flatMap rgc)) → Hid (W.ownsRow W2.heap.size 3 1 (.slice (some ⟨g4, 0, none⟩) 0 0) 0 []) → Hid (W.ownsRow W2.heap.size 90 3 (.slice (some ⟨g8, 0, none⟩) 0 0) 0 []) → wpAnyH Try.prog .any O q (fun w' => (∀ o, w'.cell? ⟨w.heap.size, o, none⟩ = W2.cell? ⟨w.heap.size, o, none⟩)) 7 #[true, true, true, true, true, true, true, false, true, true, true, false, true, false, false, false, false, false] { tmps := #[.agg #[.int .i64 f.last, .slice Ag ng cg, .slice Aw nw cw, .slice Ab nb cb, .slice Ac nc cc, .int .i64 f.ripe, .int .i64 f.late, .int .i64 f.trod, .slice Al nl cl], .int .u8 a, .int .u8 b, .int .u16 c, .pointer (some ⟨w.heap.size, 0, none⟩), undef, undef, undef, .bool false, .pointer (some ⟨p, 0, none⟩), undef, undef, undef, undef, undef, undef, undef, undef, undef, undef, undef, undef, undef, undef, undef, undef, undef, undef, undef, undef, undef, .agg #[.int .i64 f.last, .slice Ag ng cg, .slice Aw nw cw, .slice Ab nb cb, .slice Ac nc cc, .int .i64 f.ripe, .int .i64 f.late, .int .i64 f.trod, .slice Al nl cl], .bool true, .bool false, undef, .agg #[.int .i64 f.last, .slice Ag ng cg, .slice Aw nw cw, .slice Ab nb cb, .slice Ac nc cc, .int .i64 f.ripe, .int .i64 f.late, .int .i64 f.trod, .slice Al nl cl], .slice (some ⟨g0, 0, none⟩) 0 0, .pointer (some ⟨w.heap.size, 1, none⟩), .slice Ag ng cg, .slice V3 ng cx3, .slice (some ⟨g4, 0, none⟩) 0 0, .pointer (some ⟨w.heap.size, 2, none⟩), .slice Aw nw cw, undef, .slice (some ⟨g8, 0, none⟩) 0 0, .pointer (some ⟨w.heap.size, 8, none⟩), .slice Al nl cl, undef, .pointer (some ⟨p, 1, none⟩), undef, undef, undef, undef, undef, undef, undef, undef, undef, undef, undef, undef, undef, undef, undef, undef, undef, undef, undef, undef, undef, undef, undef, undef, undef, undef, undef, undef, undef, undef, undef, undef, undef, undef, undef, undef, undef, undef, undef, undef, undef, undef, undef, undef, undef, undef, undef, undef, undef, undef, undef, undef, undef, undef, undef, undef, undef, undef, undef, undef, undef, undef, undef, undef, undef, undef, undef, undef, undef, undef, undef, undef, undef, undef, undef, undef, undef, undef, undef, undef, undef, undef, undef, undef, undef, undef, undef, undef, undef, undef, undef, undef, undef, undef, undef, undef, undef, undef, undef, undef, undef, undef, undef, undef, undef, undef, undef, undef, undef, undef, undef, undef, undef, undef, undef, undef, undef, undef, undef, undef, undef, undef, undef, undef, undef, undef, undef, undef, undef, undef, undef, undef, undef, undef, undef, undef, undef, undef, undef, undef, undef, undef, undef, undef, undef, undef, undef, undef, undef, undef, undef, undef, undef, undef, undef, undef, undef, undef, undef, undef, undef, undef, undef, undef, undef, undef, undef, undef, undef, undef, undef, undef, undef, undef, undef, undef, undef, undef, undef, undef, undef, undef, undef, undef], defers := [] } W := by
   intro W g0 V3 cx3 g4 g8 hE fr0 fr4 fr8
   refine wpAnyH_ready (rs := [7]) (by rw [hO.out]; kernel_rfl) (by simp) ?_
   refine AllReadyH.cons (by rw [hO.out]; rfl) (fun K hK => ?_) (AllReadyH.nil)
   refine step_append_any (enc := ics) rfl (.tmp 40) (.tmp 42) 23 rfl W2.heap.size 3 i0 _ 1 8 Try.underlying23 hi0 hi1 hi2 hi3 rfl (by decide) _ 0 [] rfl fr4.out Aw nw cw f.wet _ rfl (HLI.out.ev (HEW.out.trans hE)) (ics_len _) (ics_one _) (by unfold maxLen; omega) (by omega) (hE.size) ?_
   intro v' w9 hown' hgrow
   have hown2 : w9.ownsRow W2.heap.size 3 1 v' nw (f.wet.flatMap ics) := by simpa using hown'
   obtain ⟨V9, cx9, rfl⟩ := own_form hown2
   have hr9 := hid hown2
   have hx9 : Ev W2 w9 := Ev.grown hE hgrow (fun k e => (fr4.out.lt k e).1)
   refine hK.out _ _ (HSE.out _ hx9) (fun hHeld => ?_)
   (try simp only [Act.put, sA, sB, sC])
   exact N_0_4_8_2 _ g0 V3 cx3 g4 V9 cx9 g8 hx9 (hid (fr0.out.kept hgrow (own_ne fr4.out fr0.out (by decide)))) hr9 (hid (fr8.out.kept hgrow (own_ne fr4.out fr8.out (by decide))))
  have N_0_4_1 : ∀ (W : World) (g0 : Nat) (V3 : Option Addr) (cx3 : Nat) (g4 : Nat), Ev W2 W → Hid (W.ownsRow W2.heap.size 87 2 (.slice V3 ng cx3) ng (f.gr.flatMap rgc)) → Hid (W.ownsRow W2.heap.size 3 1 (.slice (some ⟨g4, 0, none⟩) 0 0) 0 []) → wpAnyH Try.prog .any O q (fun w' => (∀ o, w'.cell? ⟨w.heap.size, o, none⟩ = W2.cell? ⟨w.heap.size, o, none⟩)) 8 #[true, true, true, true, true, true, true, false, false, true, true, false, true, false, false, false, false, false] { tmps := #[.agg #[.int .i64 f.last, .slice Ag ng cg, .slice Aw nw cw, .slice Ab nb cb, .slice Ac nc cc, .int .i64 f.ripe, .int .i64 f.late, .int .i64 f.trod, .slice Al nl cl], .int .u8 a, .int .u8 b, .int .u16 c, .pointer (some ⟨w.heap.size, 0, none⟩), undef, undef, undef, .bool false, .pointer (some ⟨p, 0, none⟩), undef, undef, undef, undef, undef, undef, undef, undef, undef, undef, undef, undef, undef, undef, undef, undef, undef, undef, undef, undef, undef, .agg #[.int .i64 f.last, .slice Ag ng cg, .slice Aw nw cw, .slice Ab nb cb, .slice Ac nc cc, .int .i64 f.ripe, .int .i64 f.late, .int .i64 f.trod, .slice Al nl cl], .bool true, .bool false, undef, .agg #[.int .i64 f.last, .slice Ag ng cg, .slice Aw nw cw, .slice Ab nb cb, .slice Ac nc cc, .int .i64 f.ripe, .int .i64 f.late, .int .i64 f.trod, .slice Al nl cl], .slice (some ⟨g0, 0, none⟩) 0 0, .pointer (some ⟨w.heap.size, 1, none⟩), .slice Ag ng cg, .slice V3 ng cx3, .slice (some ⟨g4, 0, none⟩) 0 0, .pointer (some ⟨w.heap.size, 2, none⟩), .slice Aw nw cw, undef, undef, .pointer (some ⟨w.heap.size, 8, none⟩), .slice Al nl cl, undef, .pointer (some ⟨p, 1, none⟩), undef, undef, undef, undef, undef, undef, undef, undef, undef, undef, undef, undef, undef, undef, undef, undef, undef, undef, undef, undef, undef, undef, undef, undef, undef, undef, undef, undef, undef, undef, undef, undef, undef, undef, undef, undef, undef, undef, undef, undef, undef, undef, undef, undef, undef, undef, undef, undef, undef, undef, undef, undef, undef, undef, undef, undef, undef, undef, undef, undef, undef, undef, undef, undef, undef, undef, undef, undef, undef, undef, undef, undef, undef, undef, undef, undef, undef, undef, undef, undef, undef, undef, undef, undef, undef, undef, undef, undef, undef, undef, undef, undef, undef, undef, undef, undef, undef, undef, undef, undef, undef, undef, undef, undef, undef, undef, undef, undef, undef, undef, undef, undef, undef, undef, undef, undef, undef, undef, undef, undef, undef, undef, undef, undef, undef, undef, undef, undef, undef, undef, undef, undef, undef, undef, undef, undef, undef, undef, undef, undef, undef, undef, undef, undef, undef, undef, undef, undef, undef, undef, undef, undef, undef, undef, undef, undef, undef, undef, undef, undef, undef, undef, undef, undef, undef, undef, undef, undef, undef, undef, undef, undef, undef, undef, undef, undef, undef, undef, undef, undef, undef, undef, undef, undef], defers := [] } W := by
   intro W g0 V3 cx3 g4 hE fr0 fr4
   refine wpAnyH_ready (rs := [7, 8]) (by rw [hO.out]; kernel_rfl) (by simp) ?_
   refine AllReadyH.cons (by rw [hO.out]; rfl) (fun K hK => ?_) (AllReadyH.cons (by rw [hO.out]; rfl) (fun K hK => ?_) (AllReadyH.nil))
   ·
    refine step_append_any (enc := ics) rfl (.tmp 40) (.tmp 42) 23 rfl W2.heap.size 3 i0 _ 1 8 Try.underlying23 hi0 hi1 hi2 hi3 rfl (by decide) _ 0 [] rfl fr4.out Aw nw cw f.wet _ rfl (HLI.out.ev (HEW.out.trans hE)) (ics_len _) (ics_one _) (by unfold maxLen; omega) (by omega) (hE.size) ?_
    intro v' w9 hown' hgrow
    have hown2 : w9.ownsRow W2.heap.size 3 1 v' nw (f.wet.flatMap ics) := by simpa using hown'
    obtain ⟨V9, cx9, rfl⟩ := own_form hown2
    have hr9 := hid hown2
    have hx9 : Ev W2 w9 := Ev.grown hE hgrow (fun k e => (fr4.out.lt k e).1)
    refine hK.out _ _ (HSE.out _ hx9) (fun hHeld => ?_)
    (try simp only [Act.put, sA, sB, sC])
    exact N_0_4_2 _ g0 V3 cx3 g4 V9 cx9 hx9 (hid (fr0.out.kept hgrow (own_ne fr4.out fr0.out (by decide)))) hr9
   ·
    go_simp
    generalize hW9 : World.alloc W _ = w9
    have hE8 : Ev W w9 := by rw [← hW9]; exact Ev.alloc (Ev.refl _) _
    have hx9 : Ev W2 w9 := hE.trans hE8
    have hr9 := hid (show w9.ownsRow W2.heap.size 90 3 (.slice (some ⟨W.heap.size, 0, none⟩) 0 0) 0 [] from by rw [← hW9]; exact World.ownsRow_lit W #[] 0 hE.size (by decide) rfl)
    clear hW9
    refine hK.out _ _ (HSE.out _ hx9) (fun hHeld => ?_)
    (try simp only [Act.put, sA, sB, sC])
    exact N_0_4_8_1 _ g0 V3 cx3 g4 _ hx9 (hid (fr0.out.ev hE8)) (hid (fr4.out.ev hE8)) hr9
  have N_0_4_8_0 : ∀ (W : World) (g0 : Nat) (g4 : Nat) (g8 : Nat), Ev W2 W → Hid (W.ownsRow W2.heap.size 87 2 (.slice (some ⟨g0, 0, none⟩) 0 0) 0 []) → Hid (W.ownsRow W2.heap.size 3 1 (.slice (some ⟨g4, 0, none⟩) 0 0) 0 []) → Hid (W.ownsRow W2.heap.size 90 3 (.slice (some ⟨g8, 0, none⟩) 0 0) 0 []) → wpAnyH Try.prog .any O q (fun w' => (∀ o, w'.cell? ⟨w.heap.size, o, none⟩ = W2.cell? ⟨w.heap.size, o, none⟩)) 9 #[true, true, true, false, true, true, true, false, true, true, true, false, false, false, false, false, false, false] { tmps := #[.agg #[.int .i64 f.last, .slice Ag ng cg, .slice Aw nw cw, .slice Ab nb cb, .slice Ac nc cc, .int .i64 f.ripe, .int .i64 f.late, .int .i64 f.trod, .slice Al nl cl], .int .u8 a, .int .u8 b, .int .u16 c, .pointer (some ⟨w.heap.size, 0, none⟩), undef, undef, undef, .bool false, .pointer (some ⟨p, 0, none⟩), undef, undef, undef, undef, undef, undef, undef, undef, undef, undef, undef, undef, undef, undef, undef, undef, undef, undef, undef, undef, undef, .agg #[.int .i64 f.last, .slice Ag ng cg, .slice Aw nw cw, .slice Ab nb cb, .slice Ac nc cc, .int .i64 f.ripe, .int .i64 f.late, .int .i64 f.trod, .slice Al nl cl], .bool true, .bool false, undef, .agg #[.int .i64 f.last, .slice Ag ng cg, .slice Aw nw cw, .slice Ab nb cb, .slice Ac nc cc, .int .i64 f.ripe, .int .i64 f.late, .int .i64 f.trod, .slice Al nl cl], .slice (some ⟨g0, 0, none⟩) 0 0, .pointer (some ⟨w.heap.size, 1, none⟩), .slice Ag ng cg, undef, .slice (some ⟨g4, 0, none⟩) 0 0, .pointer (some ⟨w.heap.size, 2, none⟩), .slice Aw nw cw, undef, .slice (some ⟨g8, 0, none⟩) 0 0, .pointer (some ⟨w.heap.size, 8, none⟩), .slice Al nl cl, undef, undef, undef, undef, undef, undef, undef, undef, undef, undef, undef, undef, undef, undef, undef, undef, undef, undef, undef, undef, undef, undef, undef, undef, undef, undef, undef, undef, undef, undef, undef, undef, undef, undef, undef, undef, undef, undef, undef, undef, undef, undef, undef, undef, undef, undef, undef, undef, undef, undef, undef, undef, undef, undef, undef, undef, undef, undef, undef, undef, undef, undef, undef, undef, undef, undef, undef, undef, undef, undef, undef, undef, undef, undef, undef, undef, undef, undef, undef, undef, undef, undef, undef, undef, undef, undef, undef, undef, undef, undef, undef, undef, undef, undef, undef, undef, undef, undef, undef, undef, undef, undef, undef, undef, undef, undef, undef, undef, undef, undef, undef, undef, undef, undef, undef, undef, undef, undef, undef, undef, undef, undef, undef, undef, undef, undef, undef, undef, undef, undef, undef, undef, undef, undef, undef, undef, undef, undef, undef, undef, undef, undef, undef, undef, undef, undef, undef, undef, undef, undef, undef, undef, undef, undef, undef, undef, undef, undef, undef, undef, undef, undef, undef, undef, undef, undef, undef, undef, undef, undef, undef, undef, undef, undef, undef, undef, undef, undef, undef, undef, undef, undef, undef, undef, undef, undef], defers := [] } W := by
   intro W g0 g4 g8 hE fr0 fr4 fr8
   refine wpAnyH_ready (rs := [3]) (by rw [hO.out]; kernel_rfl) (by simp) ?_
   refine AllReadyH.cons (by rw [hO.out]; rfl) (fun K hK => ?_) (AllReadyH.nil)
   refine step_append_any (enc := rgc) rfl (.tmp 36) (.tmp 38) 22 rfl W2.heap.size 87 j0 _ 2 16 Try.underlying22 hj0 hj1 hj2 hj3 rfl (by decide) _ 0 [] rfl fr0.out Ag ng cg f.gr _ rfl (HLR.out.ev (HEW.out.trans hE)) (rgc_len _) (rgc_one _) (by unfold maxLen; omega) (by omega) (hE.size) ?_
   intro v' w9 hown' hgrow
   have hown2 : w9.ownsRow W2.heap.size 87 2 v' ng (f.gr.flatMap rgc) := by simpa using hown'
   obtain ⟨V9, cx9, rfl⟩ := own_form hown2
   have hr9 := hid hown2
   have hx9 : Ev W2 w9 := Ev.grown hE hgrow (fun k e => (fr0.out.lt k e).1)
   refine hK.out _ _ (HSE.out _ hx9) (fun hHeld => ?_)
   (try simp only [Act.put, sA, sB, sC])
   refine wpAnyH_takeD (i := 12) (v := ?_) (some 48) (by rw [hO.out]; rfl) rfl (by rw [hO.out]; kernel_rfl) (by rw [hO.out]; kernel_rfl) (by rw [hO.out]; kernel_rfl) (by rw [hq.out]; exact fun _ _ _ h => h) (Or.inl ⟨by rfl, ?hy⟩) (by assumption) ?_
   case hy => (intro w hSw; (try dsimp only at hSw); go_simp; with_reducible rfl)
   (try simp only [Act.put, sA, sB, sC])
   exact N_0_4_8_1 _ g0 V9 cx9 g4 g8 hx9 hr9 (hid (fr4.out.kept hgrow (own_ne fr0.out fr4.out (by decide)))) (hid (fr8.out.kept hgrow (own_ne fr0.out fr8.out (by decide))))
  have N_0_8_1 : ∀ (W : World) (g0 : Nat) (V3 : Option Addr) (cx3 : Nat) (g8 : Nat), Ev W2 W → Hid (W.ownsRow W2.heap.size 87 2 (.slice V3 ng cx3) ng (f.gr.flatMap rgc)) → Hid (W.ownsRow W2.heap.size 90 3 (.slice (some ⟨g8, 0, none⟩) 0 0) 0 []) → wpAnyH Try.prog .any O q (fun w' => (∀ o, w'.cell? ⟨w.heap.size, o, none⟩ = W2.cell? ⟨w.heap.size, o, none⟩)) 8 #[true, true, true, true, false, true, true, false, true, true, true, false, true, false, false, false, false, false] { tmps := #[.agg #[.int .i64 f.last, .slice Ag ng cg, .slice Aw nw cw, .slice Ab nb cb, .slice Ac nc cc, .int .i64 f.ripe, .int .i64 f.late, .int .i64 f.trod, .slice Al nl cl], .int .u8 a, .int .u8 b, .int .u16 c, .pointer (some ⟨w.heap.size, 0, none⟩), undef, undef, undef, .bool false, .pointer (some ⟨p, 0, none⟩), undef, undef, undef, undef, undef, undef, undef, undef, undef, undef, undef, undef, undef, undef, undef, undef, undef, undef, undef, undef, undef, .agg #[.int .i64 f.last, .slice Ag ng cg, .slice Aw nw cw, .slice Ab nb cb, .slice Ac nc cc, .int .i64 f.ripe, .int .i64 f.late, .int .i64 f.trod, .slice Al nl cl], .bool true, .bool false, undef, .agg #[.int .i64 f.last, .slice Ag ng cg, .slice Aw nw cw, .slice Ab nb cb, .slice Ac nc cc, .int .i64 f.ripe, .int .i64 f.late, .int .i64 f.trod, .slice Al nl cl], .slice (some ⟨g0, 0, none⟩) 0 0, .pointer (some ⟨w.heap.size, 1, none⟩), .slice Ag ng cg, .slice V3 ng cx3, undef, .pointer (some ⟨w.heap.size, 2, none⟩), .slice Aw nw cw, undef, .slice (some ⟨g8, 0, none⟩) 0 0, .pointer (some ⟨w.heap.size, 8, none⟩), .slice Al nl cl, undef, .pointer (some ⟨p, 1, none⟩), undef, undef, undef, undef, undef, undef, undef, undef, undef, undef, undef, undef, undef, undef, undef, undef, undef, undef, undef, undef, undef, undef, undef, undef, undef, undef, undef, undef, undef, undef, undef, undef, undef, undef, undef, undef, undef, undef, undef, undef, undef, undef, undef, undef, undef, undef, undef, undef, undef, undef, undef, undef, undef, undef, undef, undef, undef, undef, undef, undef, undef, undef, undef, undef, undef, undef, undef, undef, undef, undef, undef, undef, undef, undef, undef, undef, undef, undef, undef, undef, undef, undef, undef, undef, undef, undef, undef, undef, undef, undef, undef, undef, undef, undef, undef, undef, undef, undef, undef, undef, undef, undef, undef, undef, undef, undef, undef, undef, undef, undef, undef, undef, undef, undef, undef, undef, undef, undef, undef, undef, undef, undef, undef, undef, undef, undef, undef, undef, undef, undef, undef, undef, undef, undef, undef, undef, undef, undef, undef, undef, undef, undef, undef, undef, undef, undef, undef, undef, undef, undef, undef, undef, undef, undef, undef, undef, undef, undef, undef, undef, undef, undef, undef, undef, undef, undef, undef, undef, undef, undef, undef, undef, undef, undef, undef, undef, undef, undef, undef, undef, undef, undef, undef, undef], defers := [] } W := by
   intro W g0 V3 cx3 g8 hE fr0 fr8
   refine wpAnyH_ready (rs := [4]) (by rw [hO.out]; kernel_rfl) (by simp) ?_
   refine AllReadyH.cons (by rw [hO.out]; rfl) (fun K hK => ?_) (AllReadyH.nil)
   go_simp
   generalize hW9 : World.alloc W _ = w9
   have hE8 : Ev W w9 := by rw [← hW9]; exact Ev.alloc (Ev.refl _) _
   have hx9 : Ev W2 w9 := hE.trans hE8
   have hr9 := hid (show w9.ownsRow W2.heap.size 3 1 (.slice (some ⟨W.heap.size, 0, none⟩) 0 0) 0 [] from by rw [← hW9]; exact World.ownsRow_lit W #[] 0 hE.size (by decide) rfl)
   clear hW9
   refine hK.out _ _ (HSE.out _ hx9) (fun hHeld => ?_)
   (try simp only [Act.put, sA, sB, sC])
   exact N_0_4_8_1 _ g0 V3 cx3 _ g8 hx9 (hid (fr0.out.ev hE8)) hr9 (hid (fr8.out.ev hE8))
  have N_0_1 : ∀ (W : World) (g0 : Nat) (V3 : Option Addr) (cx3 : Nat), Ev W2 W → Hid (W.ownsRow W2.heap.size 87 2 (.slice V3 ng cx3) ng (f.gr.flatMap rgc)) → wpAnyH Try.prog .any O q (fun w' => (∀ o, w'.cell? ⟨w.heap.size, o, none⟩ = W2.cell? ⟨w.heap.size, o, none⟩)) 9 #[true, true, true, true, false, true, true, false, false, true, true, false, true, false, false, false, false, false] { tmps := #[.agg #[.int .i64 f.last, .slice Ag ng cg, .slice Aw nw cw, .slice Ab nb cb, .slice Ac nc cc, .int .i64 f.ripe, .int .i64 f.late, .int .i64 f.trod, .slice Al nl cl], .int .u8 a, .int .u8 b, .int .u16 c, .pointer (some ⟨w.heap.size, 0, none⟩), undef, undef, undef, .bool false, .pointer (some ⟨p, 0, none⟩), undef, undef, undef, undef, undef, undef, undef, undef, undef, undef, undef, undef, undef, undef, undef, undef, undef, undef, undef, undef, undef, .agg #[.int .i64 f.last, .slice Ag ng cg, .slice Aw nw cw, .slice Ab nb cb, .slice Ac nc cc, .int .i64 f.ripe, .int .i64 f.late, .int .i64 f.trod, .slice Al nl cl], .bool true, .bool false, undef, .agg #[.int .i64 f.last, .slice Ag ng cg, .slice Aw nw cw, .slice Ab nb cb, .slice Ac nc cc, .int .i64 f.ripe, .int .i64 f.late, .int .i64 f.trod, .slice Al nl cl], .slice (some ⟨g0, 0, none⟩) 0 0, .pointer (some ⟨w.heap.size, 1, none⟩), .slice Ag ng cg, .slice V3 ng cx3, undef, .pointer (some ⟨w.heap.size, 2, none⟩), .slice Aw nw cw, undef, undef, .pointer (some ⟨w.heap.size, 8, none⟩), .slice Al nl cl, undef, .pointer (some ⟨p, 1, none⟩), undef, undef, undef, undef, undef, undef, undef, undef, undef, undef, undef, undef, undef, undef, undef, undef, undef, undef, undef, undef, undef, undef, undef, undef, undef, undef, undef, undef, undef, undef, undef, undef, undef, undef, undef, undef, undef, undef, undef, undef, undef, undef, undef, undef, undef, undef, undef, undef, undef, undef, undef, undef, undef, undef, undef, undef, undef, undef, undef, undef, undef, undef, undef, undef, undef, undef, undef, undef, undef, undef, undef, undef, undef, undef, undef, undef, undef, undef, undef, undef, undef, undef, undef, undef, undef, undef, undef, undef, undef, undef, undef, undef, undef, undef, undef, undef, undef, undef, undef, undef, undef, undef, undef, undef, undef, undef, undef, undef, undef, undef, undef, undef, undef, undef, undef, undef, undef, undef, undef, undef, undef, undef, undef, undef, undef, undef, undef, undef, undef, undef, undef, undef, undef, undef, undef, undef, undef, undef, undef, undef, undef, undef, undef, undef, undef, undef, undef, undef, undef, undef, undef, undef, undef, undef, undef, undef, undef, undef, undef, undef, undef, undef, undef, undef, undef, undef, undef, undef, undef, undef, undef, undef, undef, undef, undef, undef, undef, undef, undef, undef, undef, undef, undef, undef], defers := [] } W := by
   intro W g0 V3 cx3 hE fr0
   refine wpAnyH_ready (rs := [4, 8]) (by rw [hO.out]; kernel_rfl) (by simp) ?_
   refine AllReadyH.cons (by rw [hO.out]; rfl) (fun K hK => ?_) (AllReadyH.cons (by rw [hO.out]; rfl) (fun K hK => ?_) (AllReadyH.nil))
   ·
    go_simp
    generalize hW9 : World.alloc W _ = w9
    have hE8 : Ev W w9 := by rw [← hW9]; exact Ev.alloc (Ev.refl _) _
    have hx9 : Ev W2 w9 := hE.trans hE8
    have hr9 := hid (show w9.ownsRow W2.heap.size 3 1 (.slice (some ⟨W.heap.size, 0, none⟩) 0 0) 0 [] from by rw [← hW9]; exact World.ownsRow_lit W #[] 0 hE.size (by decide) rfl)
    clear hW9
    refine hK.out _ _ (HSE.out _ hx9) (fun hHeld => ?_)
    (try simp only [Act.put, sA, sB, sC])
    exact N_0_4_1 _ g0 V3 cx3 _ hx9 (hid (fr0.out.ev hE8)) hr9
   ·
    go_simp
    generalize hW9 : World.alloc W _ = w9
    have hE8 : Ev W w9 := by rw [← hW9]; exact Ev.alloc (Ev.refl _) _
    have hx9 : Ev W2 w9 := hE.trans hE8
    have hr9 := hid (show w9.ownsRow W2.heap.size 90 3 (.slice (some ⟨W.heap.size, 0, none⟩) 0 0) 0 [] from by rw [← hW9]; exact World.ownsRow_lit W #[] 0 hE.size (by decide) rfl)
    clear hW9
    refine hK.out _ _ (HSE.out _ hx9) (fun hHeld => ?_)
    (try simp only [Act.put, sA, sB, sC])
    exact N_0_8_1 _ g0 V3 cx3 _ hx9 (hid (fr0.out.ev hE8)) hr9
  have N_0_4_0 : ∀ (W : World) (g0 : Nat) (g4 : Nat), Ev W2 W → Hid (W.ownsRow W2.heap.size 87 2 (.slice (some ⟨g0, 0, none⟩) 0 0) 0 []) → Hid (W.ownsRow W2.heap.size 3 1 (.slice (some ⟨g4, 0, none⟩) 0 0) 0 []) → wpAnyH Try.prog .any O q (fun w' => (∀ o, w'.cell? ⟨w.heap.size, o, none⟩ = W2.cell? ⟨w.heap.size, o, none⟩)) 10 #[true, true, true, false, true, true, true, false, false, true, true, false, false, false, false, false, false, false] { tmps := #[.agg #[.int .i64 f.last, .slice Ag ng cg, .slice Aw nw cw, .slice Ab nb cb, .slice Ac nc cc, .int .i64 f.ripe, .int .i64 f.late, .int .i64 f.trod, .slice Al nl cl], .int .u8 a, .int .u8 b, .int .u16 c, .pointer (some ⟨w.heap.size, 0, none⟩), undef, undef, undef, .bool false, .pointer (some ⟨p, 0, none⟩), undef, undef, undef, undef, undef, undef, undef, undef, undef, undef, undef, undef, undef, undef, undef, undef, undef, undef, undef, undef, undef, .agg #[.int .i64 f.last, .slice Ag ng cg, .slice Aw nw cw, .slice Ab nb cb, .slice Ac nc cc, .int .i64 f.ripe, .int .i64 f.late, .int .i64 f.trod, .slice Al nl cl], .bool true, .bool false, undef, .agg #[.int .i64 f.last, .slice Ag ng cg, .slice Aw nw cw, .slice Ab nb cb, .slice Ac nc cc, .int .i64 f.ripe, .int .i64 f.late, .int .i64 f.trod, .slice Al nl cl], .slice (some ⟨g0, 0, none⟩) 0 0, .pointer (some ⟨w.heap.size, 1, none⟩), .slice Ag ng cg, undef, .slice (some ⟨g4, 0, none⟩) 0 0, .pointer (some ⟨w.heap.size, 2, none⟩), .slice Aw nw cw, undef, undef, .pointer (some ⟨w.heap.size, 8, none⟩), .slice Al nl cl, undef, undef, undef, undef, undef, undef, undef, undef, undef, undef, undef, undef, undef, undef, undef, undef, undef, undef, undef, undef, undef, undef, undef, undef, undef, undef, undef, undef, undef, undef, undef, undef, undef, undef, undef, undef, undef, undef, undef, undef, undef, undef, undef, undef, undef, undef, undef, undef, undef, undef, undef, undef, undef, undef, undef, undef, undef, undef, undef, undef, undef, undef, undef, undef, undef, undef, undef, undef, undef, undef, undef, undef, undef, undef, undef, undef, undef, undef, undef, undef, undef, undef, undef, undef, undef, undef, undef, undef, undef, undef, undef, undef, undef, undef, undef, undef, undef, undef, undef, undef, undef, undef, undef, undef, undef, undef, undef, undef, undef, undef, undef, undef, undef, undef, undef, undef, undef, undef, undef, undef, undef, undef, undef, undef, undef, undef, undef, undef, undef, undef, undef, undef, undef, undef, undef, undef, undef, undef, undef, undef, undef, undef, undef, undef, undef, undef, undef, undef, undef, undef, undef, undef, undef, undef, undef, undef, undef, undef, undef, undef, undef, undef, undef, undef, undef, undef, undef, undef, undef, undef, undef, undef, undef, undef, undef, undef, undef, undef, undef, undef, undef, undef, undef, undef, undef, undef], defers := [] } W := by
   intro W g0 g4 hE fr0 fr4
   refine wpAnyH_ready (rs := [3, 8]) (by rw [hO.out]; kernel_rfl) (by simp) ?_
   refine AllReadyH.cons (by rw [hO.out]; rfl) (fun K hK => ?_) (AllReadyH.cons (by rw [hO.out]; rfl) (fun K hK => ?_) (AllReadyH.nil))
   ·
    refine step_append_any (enc := rgc) rfl (.tmp 36) (.tmp 38) 22 rfl W2.heap.size 87 j0 _ 2 16 Try.underlying22 hj0 hj1 hj2 hj3 rfl (by decide) _ 0 [] rfl fr0.out Ag ng cg f.gr _ rfl (HLR.out.ev (HEW.out.trans hE)) (rgc_len _) (rgc_one _) (by unfold maxLen; omega) (by omega) (hE.size) ?_
    intro v' w9 hown' hgrow
    have hown2 : w9.ownsRow W2.heap.size 87 2 v' ng (f.gr.flatMap rgc) := by simpa using hown'
    obtain ⟨V9, cx9, rfl⟩ := own_form hown2
    have hr9 := hid hown2
    have hx9 : Ev W2 w9 := Ev.grown hE hgrow (fun k e => (fr0.out.lt k e).1)
    refine hK.out _ _ (HSE.out _ hx9) (fun hHeld => ?_)
    (try simp only [Act.put, sA, sB, sC])
    refine wpAnyH_takeD (i := 12) (v := ?_) (some 48) (by rw [hO.out]; rfl) rfl (by rw [hO.out]; kernel_rfl) (by rw [hO.out]; kernel_rfl) (by rw [hO.out]; kernel_rfl) (by rw [hq.out]; exact fun _ _ _ h => h) (Or.inl ⟨by rfl, ?hy⟩) (by assumption) ?_
    case hy => (intro w hSw; (try dsimp only at hSw); go_simp; with_reducible rfl)
    (try simp only [Act.put, sA, sB, sC])
    exact N_0_4_1 _ g0 V9 cx9 g4 hx9 hr9 (hid (fr4.out.kept hgrow (own_ne fr0.out fr4.out (by decide))))
   ·
    go_simp
    generalize hW9 : World.alloc W _ = w9
    have hE8 : Ev W w9 := by rw [← hW9]; exact Ev.alloc (Ev.refl _) _
    have hx9 : Ev W2 w9 := hE.trans hE8
    have hr9 := hid (show w9.ownsRow W2.heap.size 90 3 (.slice (some ⟨W.heap.size, 0, none⟩) 0 0) 0 [] from by rw [← hW9]; exact World.ownsRow_lit W #[] 0 hE.size (by decide) rfl)
    clear hW9
    refine hK.out _ _ (HSE.out _ hx9) (fun hHeld => ?_)
    (try simp only [Act.put, sA, sB, sC])
    exact N_0_4_8_0 _ g0 g4 _ hx9 (hid (fr0.out.ev hE8)) (hid (fr4.out.ev hE8)) hr9
  have N_0_8_0 : ∀ (W : World) (g0 : Nat) (g8 : Nat), Ev W2 W → Hid (W.ownsRow W2.heap.size 87 2 (.slice (some ⟨g0, 0, none⟩) 0 0) 0 []) → Hid (W.ownsRow W2.heap.size 90 3 (.slice (some ⟨g8, 0, none⟩) 0 0) 0 []) → wpAnyH Try.prog .any O q (fun w' => (∀ o, w'.cell? ⟨w.heap.size, o, none⟩ = W2.cell? ⟨w.heap.size, o, none⟩)) 10 #[true, true, true, false, false, true, true, false, true, true, true, false, false, false, false, false, false, false] { tmps := #[.agg #[.int .i64 f.last, .slice Ag ng cg, .slice Aw nw cw, .slice Ab nb cb, .slice Ac nc cc, .int .i64 f.ripe, .int .i64 f.late, .int .i64 f.trod, .slice Al nl cl], .int .u8 a, .int .u8 b, .int .u16 c, .pointer (some ⟨w.heap.size, 0, none⟩), undef, undef, undef, .bool false, .pointer (some ⟨p, 0, none⟩), undef, undef, undef, undef, undef, undef, undef, undef, undef, undef, undef, undef, undef, undef, undef, undef, undef, undef, undef, undef, undef, .agg #[.int .i64 f.last, .slice Ag ng cg, .slice Aw nw cw, .slice Ab nb cb, .slice Ac nc cc, .int .i64 f.ripe, .int .i64 f.late, .int .i64 f.trod, .slice Al nl cl], .bool true, .bool false, undef, .agg #[.int .i64 f.last, .slice Ag ng cg, .slice Aw nw cw, .slice Ab nb cb, .slice Ac nc cc, .int .i64 f.ripe, .int .i64 f.late, .int .i64 f.trod, .slice Al nl cl], .slice (some ⟨g0, 0, none⟩) 0 0, .pointer (some ⟨w.heap.size, 1, none⟩), .slice Ag ng cg, undef, undef, .pointer (some ⟨w.heap.size, 2, none⟩), .slice Aw nw cw, undef, .slice (some ⟨g8, 0, none⟩) 0 0, .pointer (some ⟨w.heap.size, 8, none⟩), .slice Al nl cl, undef, undef, undef, undef, undef, undef, undef, undef, undef, undef, undef, undef, undef, undef, undef, undef, undef, undef, undef, undef, undef, undef, undef, undef, undef, undef, undef, undef, undef, undef, undef, undef, undef, undef, undef, undef, undef, undef, undef, undef, undef, undef, undef, undef, undef, undef, undef, undef, undef, undef, undef, undef, undef, undef, undef, undef, undef, undef, undef, undef, undef, undef, undef, undef, undef, undef, undef, undef, undef, undef, undef, undef, undef, undef, undef, undef, undef, undef, undef, undef, undef, undef, undef, undef, undef, undef, undef, undef, undef, undef, undef, undef, undef, undef, undef, undef, undef, undef, undef, undef, undef, undef, undef, undef, undef, undef, undef, undef, undef, undef, undef, undef, undef, undef, undef, undef, undef, undef, undef, undef, undef, undef, undef, undef, undef, undef, undef, undef, undef, undef, undef, undef, undef, undef, undef, undef, undef, undef, undef, undef, undef, undef, undef, undef, undef, undef, undef, undef, undef, undef, undef, undef, undef, undef, undef, undef, undef, undef, undef, undef, undef, undef, undef, undef, undef, undef, undef, undef, undef, undef, undef, undef, undef, undef, undef, undef, undef, undef, undef, undef, undef, undef, undef, undef, undef, undef], defers := [] } W := by
   intro W g0 g8 hE fr0 fr8
   refine wpAnyH_ready (rs := [3, 4]) (by rw [hO.out]; kernel_rfl) (by simp) ?_
   refine AllReadyH.cons (by rw [hO.out]; rfl) (fun K hK => ?_) (AllReadyH.cons (by rw [hO.out]; rfl) (fun K hK => ?_) (AllReadyH.nil))
   ·
    refine step_append_any (enc := rgc) rfl (.tmp 36) (.tmp 38) 22 rfl W2.heap.size 87 j0 _ 2 16 Try.underlying22 hj0 hj1 hj2 hj3 rfl (by decide) _ 0 [] rfl fr0.out Ag ng cg f.gr _ rfl (HLR.out.ev (HEW.out.trans hE)) (rgc_len _) (rgc_one _) (by unfold maxLen; omega) (by omega) (hE.size) ?_
    intro v' w9 hown' hgrow
    have hown2 : w9.ownsRow W2.heap.size 87 2 v' ng (f.gr.flatMap rgc) := by simpa using hown'
    obtain ⟨V9, cx9, rfl⟩ := own_form hown2
    have hr9 := hid hown2
    have hx9 : Ev W2 w9 := Ev.grown hE hgrow (fun k e => (fr0.out.lt k e).1)
    refine hK.out _ _ (HSE.out _ hx9) (fun hHeld => ?_)
    (try simp only [Act.put, sA, sB, sC])
    refine wpAnyH_takeD (i := 12) (v := ?_) (some 48) (by rw [hO.out]; rfl) rfl (by rw [hO.out]; kernel_rfl) (by rw [hO.out]; kernel_rfl) (by rw [hO.out]; kernel_rfl) (by rw [hq.out]; exact fun _ _ _ h => h) (Or.inl ⟨by rfl, ?hy⟩) (by assumption) ?_
    case hy => (intro w hSw; (try dsimp only at hSw); go_simp; with_reducible rfl)
    (try simp only [Act.put, sA, sB, sC])
    exact N_0_8_1 _ g0 V9 cx9 g8 hx9 hr9 (hid (fr8.out.kept hgrow (own_ne fr0.out fr8.out (by decide))))
   ·
    go_simp
    generalize hW9 : World.alloc W _ = w9
    have hE8 : Ev W w9 := by rw [← hW9]; exact Ev.alloc (Ev.refl _) _
    have hx9 : Ev W2 w9 := hE.trans hE8
    have hr9 := hid (show w9.ownsRow W2.heap.size 3 1 (.slice (some ⟨W.heap.size, 0, none⟩) 0 0) 0 [] from by rw [← hW9]; exact World.ownsRow_lit W #[] 0 hE.size (by decide) rfl)
    clear hW9
    refine hK.out _ _ (HSE.out _ hx9) (fun hHeld => ?_)
    (try simp only [Act.put, sA, sB, sC])
    exact N_0_4_8_0 _ g0 _ g8 hx9 (hid (fr0.out.ev hE8)) hr9 (hid (fr8.out.ev hE8))
  have N_4_8_0 : ∀ (W : World) (g4 : Nat) (g8 : Nat), Ev W2 W → Hid (W.ownsRow W2.heap.size 3 1 (.slice (some ⟨g4, 0, none⟩) 0 0) 0 []) → Hid (W.ownsRow W2.heap.size 90 3 (.slice (some ⟨g8, 0, none⟩) 0 0) 0 []) → wpAnyH Try.prog .any O q (fun w' => (∀ o, w'.cell? ⟨w.heap.size, o, none⟩ = W2.cell? ⟨w.heap.size, o, none⟩)) 10 #[false, true, true, false, true, true, true, false, true, true, true, false, false, false, false, false, false, false] { tmps := #[.agg #[.int .i64 f.last, .slice Ag ng cg, .slice Aw nw cw, .slice Ab nb cb, .slice Ac nc cc, .int .i64 f.ripe, .int .i64 f.late, .int .i64 f.trod, .slice Al nl cl], .int .u8 a, .int .u8 b, .int .u16 c, .pointer (some ⟨w.heap.size, 0, none⟩), undef, undef, undef, .bool false, .pointer (some ⟨p, 0, none⟩), undef, undef, undef, undef, undef, undef, undef, undef, undef, undef, undef, undef, undef, undef, undef, undef, undef, undef, undef, undef, undef, .agg #[.int .i64 f.last, .slice Ag ng cg, .slice Aw nw cw, .slice Ab nb cb, .slice Ac nc cc, .int .i64 f.ripe, .int .i64 f.late, .int .i64 f.trod, .slice Al nl cl], .bool true, .bool false, undef, .agg #[.int .i64 f.last, .slice Ag ng cg, .slice Aw nw cw, .slice Ab nb cb, .slice Ac nc cc, .int .i64 f.ripe, .int .i64 f.late, .int .i64 f.trod, .slice Al nl cl], undef, .pointer (some ⟨w.heap.size, 1, none⟩), .slice Ag ng cg, undef, .slice (some ⟨g4, 0, none⟩) 0 0, .pointer (some ⟨w.heap.size, 2, none⟩), .slice Aw nw cw, undef, .slice (some ⟨g8, 0, none⟩) 0 0, .pointer (some ⟨w.heap.size, 8, none⟩), .slice Al nl cl, undef, undef, undef, undef, undef, undef, undef, undef, undef, undef, undef, undef, undef, undef, undef, undef, undef, undef, undef, undef, undef, undef, undef, undef, undef, undef, undef, undef, undef, undef, undef, undef, undef, undef, undef, undef, undef, undef, undef, undef, undef, undef, undef, undef, undef, undef, undef, undef, undef, undef, undef, undef, undef, undef, undef, undef, undef, undef, undef, undef, undef, undef, undef, undef, undef, undef, undef, undef, undef, undef, undef, undef, undef, undef, undef, undef, undef, undef, undef, undef, undef, undef, undef, undef, undef, undef, undef, undef, undef, undef, undef, undef, undef, undef, undef, undef, undef, undef, undef, undef, undef, undef, undef, undef, undef, undef, undef, undef, undef, undef, undef, undef, undef, undef, undef, undef, undef, undef, undef, undef, undef, undef, undef, undef, undef, undef, undef, undef, undef, undef, undef, undef, undef, undef, undef, undef, undef, undef, undef, undef, undef, undef, undef, undef, undef, undef, undef, undef, undef, undef, undef, undef, undef, undef, undef, undef, undef, undef, undef, undef, undef, undef, undef, undef, undef, undef, undef, undef, undef, undef, undef, undef, undef, undef, undef, undef, undef, undef, undef, undef, undef, undef, undef, undef, undef, undef], defers := [] } W := by
   intro W g4 g8 hE fr4 fr8
   refine wpAnyH_ready (rs := [0]) (by rw [hO.out]; kernel_rfl) (by simp) ?_
   refine AllReadyH.cons (by rw [hO.out]; rfl) (fun K hK => ?_) (AllReadyH.nil)
   go_simp
   generalize hW9 : World.alloc W _ = w9
   have hE8 : Ev W w9 := by rw [← hW9]; exact Ev.alloc (Ev.refl _) _
   have hx9 : Ev W2 w9 := hE.trans hE8
   have hr9 := hid (show w9.ownsRow W2.heap.size 87 2 (.slice (some ⟨W.heap.size, 0, none⟩) 0 0) 0 [] from by rw [← hW9]; exact World.ownsRow_lit W #[] 0 hE.size (by decide) rfl)
   clear hW9
   refine hK.out _ _ (HSE.out _ hx9) (fun hHeld => ?_)
   (try simp only [Act.put, sA, sB, sC])
   exact N_0_4_8_0 _ _ g4 g8 hx9 hr9 (hid (fr4.out.ev hE8)) (hid (fr8.out.ev hE8))
  have N_0_0 : ∀ (W : World) (g0 : Nat), Ev W2 W → Hid (W.ownsRow W2.heap.size 87 2 (.slice (some ⟨g0, 0, none⟩) 0 0) 0 []) → wpAnyH Try.prog .any O q (fun w' => (∀ o, w'.cell? ⟨w.heap.size, o, none⟩ = W2.cell? ⟨w.heap.size, o, none⟩)) 11 #[true, true, true, false, false, true, true, false, false, true, true, false, false, false, false, false, false, false] { tmps := #[.agg #[.int .i64 f.last, .slice Ag ng cg, .slice Aw nw cw, .slice Ab nb cb, .slice Ac nc cc, .int .i64 f.ripe, .int .i64 f.late, .int .i64 f.trod, .slice Al nl cl], .int .u8 a, .int .u8 b, .int .u16 c, .pointer (some ⟨w.heap.size, 0, none⟩), undef, undef, undef, .bool false, .pointer (some ⟨p, 0, none⟩), undef, undef, undef, undef, undef, undef, undef, undef, undef, undef, undef, undef, undef, undef, undef, undef, undef, undef, undef, undef, undef, .agg #[.int .i64 f.last, .slice Ag ng cg, .slice Aw nw cw, .slice Ab nb cb, .slice Ac nc cc, .int .i64 f.ripe, .int .i64 f.late, .int .i64 f.trod, .slice Al nl cl], .bool true, .bool false, undef, .agg #[.int .i64 f.last, .slice Ag ng cg, .slice Aw nw cw, .slice Ab nb cb, .slice Ac nc cc, .int .i64 f.ripe, .int .i64 f.late, .int .i64 f.trod, .slice Al nl cl], .slice (some ⟨g0, 0, none⟩) 0 0, .pointer (some ⟨w.heap.size, 1, none⟩), .slice Ag ng cg, undef, undef, .pointer (some ⟨w.heap.size, 2, none⟩), .slice Aw nw cw, undef, undef, .pointer (some ⟨w.heap.size, 8, none⟩), .slice Al nl cl, undef, undef, undef, undef, undef, undef, undef, undef, undef, undef, undef, undef, undef, undef, undef, undef, undef, undef, undef, undef, undef, undef, undef, undef, undef, undef, undef, undef, undef, undef, undef, undef, undef, undef, undef, undef, undef, undef, undef, undef, undef, undef, undef, undef, undef, undef, undef, undef, undef, undef, undef, undef, undef, undef, undef, undef, undef, undef, undef, undef, undef, undef, undef, undef, undef, undef, undef, undef, undef, undef, undef, undef, undef, undef, undef, undef, undef, undef, undef, undef, undef, undef, undef, undef, undef, undef, undef, undef, undef, undef, undef, undef, undef, undef, undef, undef, undef, undef, undef, undef, undef, undef, undef, undef, undef, undef, undef, undef, undef, undef, undef, undef, undef, undef, undef, undef, undef, undef, undef, undef, undef, undef, undef, undef, undef, undef, undef, undef, undef, undef, undef, undef, undef, undef, undef, undef, undef, undef, undef, undef, undef, undef, undef, undef, undef, undef, undef, undef, undef, undef, undef, undef, undef, undef, undef, undef, undef, undef, undef, undef, undef, undef, undef, undef, undef, undef, undef, undef, undef, undef, undef, undef, undef, undef, undef, undef, undef, undef, undef, undef, undef, undef, undef, undef, undef, undef], defers := [] } W := by
   intro W g0 hE fr0
   refine wpAnyH_ready (rs := [3, 4, 8]) (by rw [hO.out]; kernel_rfl) (by simp) ?_
   refine AllReadyH.cons (by rw [hO.out]; rfl) (fun K hK => ?_) (AllReadyH.cons (by rw [hO.out]; rfl) (fun K hK => ?_) (AllReadyH.cons (by rw [hO.out]; rfl) (fun K hK => ?_) (AllReadyH.nil)))
   ·
    refine step_append_any (enc := rgc) rfl (.tmp 36) (.tmp 38) 22 rfl W2.heap.size 87 j0 _ 2 16 Try.underlying22 hj0 hj1 hj2 hj3 rfl (by decide) _ 0 [] rfl fr0.out Ag ng cg f.gr _ rfl (HLR.out.ev (HEW.out.trans hE)) (rgc_len _) (rgc_one _) (by unfold maxLen; omega) (by omega) (hE.size) ?_
    intro v' w9 hown' hgrow
    have hown2 : w9.ownsRow W2.heap.size 87 2 v' ng (f.gr.flatMap rgc) := by simpa using hown'
    obtain ⟨V9, cx9, rfl⟩ := own_form hown2
    have hr9 := hid hown2
    have hx9 : Ev W2 w9 := Ev.grown hE hgrow (fun k e => (fr0.out.lt k e).1)
    refine hK.out _ _ (HSE.out _ hx9) (fun hHeld => ?_)
    (try simp only [Act.put, sA, sB, sC])
    refine wpAnyH_takeD (i := 12) (v := ?_) (some 48) (by rw [hO.out]; rfl) rfl (by rw [hO.out]; kernel_rfl) (by rw [hO.out]; kernel_rfl) (by rw [hO.out]; kernel_rfl) (by rw [hq.out]; exact fun _ _ _ h => h) (Or.inl ⟨by rfl, ?hy⟩) (by assumption) ?_
    case hy => (intro w hSw; (try dsimp only at hSw); go_simp; with_reducible rfl)
    (try simp only [Act.put, sA, sB, sC])
    exact N_0_1 _ g0 V9 cx9 hx9 hr9
   ·
    go_simp
    generalize hW9 : World.alloc W _ = w9
    have hE8 : Ev W w9 := by rw [← hW9]; exact Ev.alloc (Ev.refl _) _
    have hx9 : Ev W2 w9 := hE.trans hE8
    have hr9 := hid (show w9.ownsRow W2.heap.size 3 1 (.slice (some ⟨W.heap.size, 0, none⟩) 0 0) 0 [] from by rw [← hW9]; exact World.ownsRow_lit W #[] 0 hE.size (by decide) rfl)
    clear hW9
    refine hK.out _ _ (HSE.out _ hx9) (fun hHeld => ?_)
    (try simp only [Act.put, sA, sB, sC])
    exact N_0_4_0 _ g0 _ hx9 (hid (fr0.out.ev hE8)) hr9
   ·
    go_simp
    generalize hW9 : World.alloc W _ = w9
    have hE8 : Ev W w9 := by rw [← hW9]; exact Ev.alloc (Ev.refl _) _
    have hx9 : Ev W2 w9 := hE.trans hE8
    have hr9 := hid (show w9.ownsRow W2.heap.size 90 3 (.slice (some ⟨W.heap.size, 0, none⟩) 0 0) 0 [] from by rw [← hW9]; exact World.ownsRow_lit W #[] 0 hE.size (by decide) rfl)
    clear hW9
    refine hK.out _ _ (HSE.out _ hx9) (fun hHeld => ?_)
    (try simp only [Act.put, sA, sB, sC])
    exact N_0_8_0 _ g0 _ hx9 (hid (fr0.out.ev hE8)) hr9
  have N_4_0 : ∀ (W : World) (g4 : Nat), Ev W2 W → Hid (W.ownsRow W2.heap.size 3 1 (.slice (some ⟨g4, 0, none⟩) 0 0) 0 []) → wpAnyH Try.prog .any O q (fun w' => (∀ o, w'.cell? ⟨w.heap.size, o, none⟩ = W2.cell? ⟨w.heap.size, o, none⟩)) 11 #[false, true, true, false, true, true, true, false, false, true, true, false, false, false, false, false, false, false] { tmps := #[.agg #[.int .i64 f.last, .slice Ag ng cg, .slice Aw nw cw, .slice Ab nb cb, .slice Ac nc cc, .int .i64 f.ripe, .int .i64 f.late, .int .i64 f.trod, .slice Al nl cl], .int .u8 a, .int .u8 b, .int .u16 c, .pointer (some ⟨w.heap.size, 0, none⟩), undef, undef, undef, .bool false, .pointer (some ⟨p, 0, none⟩), undef, undef, undef, undef, undef, undef, undef, undef, undef, undef, undef, undef, undef, undef, undef, undef, undef, undef, undef, undef, undef, .agg #[.int .i64 f.last, .slice Ag ng cg, .slice Aw nw cw, .slice Ab nb cb, .slice Ac nc cc, .int .i64 f.ripe, .int .i64 f.late, .int .i64 f.trod, .slice Al nl cl], .bool true, .bool false, undef, .agg #[.int .i64 f.last, .slice Ag ng cg, .slice Aw nw cw, .slice Ab nb cb, .slice Ac nc cc, .int .i64 f.ripe, .int .i64 f.late, .int .i64 f.trod, .slice Al nl cl], undef, .pointer (some ⟨w.heap.size, 1, none⟩), .slice Ag ng cg, undef, .slice (some ⟨g4, 0, none⟩) 0 0, .pointer (some ⟨w.heap.size, 2, none⟩), .slice Aw nw cw, undef, undef, .pointer (some ⟨w.heap.size, 8, none⟩), .slice Al nl cl, undef, undef, undef, undef, undef, undef, undef, undef, undef, undef, undef, undef, undef, undef, undef, undef, undef, undef, undef, undef, undef, undef, undef, undef, undef, undef, undef, undef, undef, undef, undef, undef, undef, undef, undef, undef, undef, undef, undef, undef, undef, undef, undef, undef, undef, undef, undef, undef, undef, undef, undef, undef, undef, undef, undef, undef, undef, undef, undef, undef, undef, undef, undef, undef, undef, undef, undef, undef, undef, undef, undef, undef, undef, undef, undef, undef, undef, undef, undef, undef, undef, undef, undef, undef, undef, undef, undef, undef, undef, undef, undef, undef, undef, undef, undef, undef, undef, undef, undef, undef, undef, undef, undef, undef, undef, undef, undef, undef, undef, undef, undef, undef, undef, undef, undef, undef, undef, undef, undef, undef, undef, undef, undef, undef, undef, undef, undef, undef, undef, undef, undef, undef, undef, undef, undef, undef, undef, undef, undef, undef, undef, undef, undef, undef, undef, undef, undef, undef, undef, undef, undef, undef, undef, undef, undef, undef, undef, undef, undef, undef, undef, undef, undef, undef, undef, undef, undef, undef, undef, undef, undef, undef, undef, undef, undef, undef, undef, undef, undef, undef, undef, undef, undef, undef, undef, undef], defers := [] } W := by
   intro W g4 hE fr4
   refine wpAnyH_ready (rs := [0, 8]) (by rw [hO.out]; kernel_rfl) (by simp) ?_
   refine AllReadyH.cons (by rw [hO.out]; rfl) (fun K hK => ?_) (AllReadyH.cons (by rw [hO.out]; rfl) (fun K hK => ?_) (AllReadyH.nil))
   ·
    go_simp
    generalize hW9 : World.alloc W _ = w9
    have hE8 : Ev W w9 := by rw [← hW9]; exact Ev.alloc (Ev.refl _) _
    have hx9 : Ev W2 w9 := hE.trans hE8
    have hr9 := hid (show w9.ownsRow W2.heap.size 87 2 (.slice (some ⟨W.heap.size, 0, none⟩) 0 0) 0 [] from by rw [← hW9]; exact World.ownsRow_lit W #[] 0 hE.size (by decide) rfl)
    clear hW9
    refine hK.out _ _ (HSE.out _ hx9) (fun hHeld => ?_)
    (try simp only [Act.put, sA, sB, sC])
    exact N_0_4_0 _ _ g4 hx9 hr9 (hid (fr4.out.ev hE8))
   ·
    go_simp
    generalize hW9 : World.alloc W _ = w9
    have hE8 : Ev W w9 := by rw [← hW9]; exact Ev.alloc (Ev.refl _) _
    have hx9 : Ev W2 w9 := hE.trans hE8
    have hr9 := hid (show w9.ownsRow W2.heap.size 90 3 (.slice (some ⟨W.heap.size, 0, none⟩) 0 0) 0 [] from by rw [← hW9]; exact World.ownsRow_lit W #[] 0 hE.size (by decide) rfl)
    clear hW9
    refine hK.out _ _ (HSE.out _ hx9) (fun hHeld => ?_)
    (try simp only [Act.put, sA, sB, sC])
    exact N_4_8_0 _ g4 _ hx9 (hid (fr4.out.ev hE8)) hr9
  have N_8_0 : ∀ (W : World) (g8 : Nat), Ev W2 W → Hid (W.ownsRow W2.heap.size 90 3 (.slice (some ⟨g8, 0, none⟩) 0 0) 0 []) → wpAnyH Try.prog .any O q (fun w' => (∀ o, w'.cell? ⟨w.heap.size, o, none⟩ = W2.cell? ⟨w.heap.size, o, none⟩)) 11 #[false, true, true, false, false, true, true, false, true, true, true, false, false, false, false, false, false, false] { tmps := #[.agg #[.int .i64 f.last, .slice Ag ng cg, .slice Aw nw cw, .slice Ab nb cb, .slice Ac nc cc, .int .i64 f.ripe, .int .i64 f.late, .int .i64 f.trod, .slice Al nl cl], .int .u8 a, .int .u8 b, .int .u16 c, .pointer (some ⟨w.heap.size, 0, none⟩), undef, undef, undef, .bool false, .pointer (some ⟨p, 0, none⟩), undef, undef, undef, undef, undef, undef, undef, undef, undef, undef, undef, undef, undef, undef, undef, undef, undef, undef, undef, undef, undef, .agg #[.int .i64 f.last, .slice Ag ng cg, .slice Aw nw cw, .slice Ab nb cb, .slice Ac nc cc, .int .i64 f.ripe, .int .i64 f.late, .int .i64 f.trod, .slice Al nl cl], .bool true, .bool false, undef, .agg #[.int .i64 f.last, .slice Ag ng cg, .slice Aw nw cw, .slice Ab nb cb, .slice Ac nc cc, .int .i64 f.ripe, .int .i64 f.late, .int .i64 f.trod, .slice Al nl cl], undef, .pointer (some ⟨w.heap.size, 1, none⟩), .slice Ag ng cg, undef, undef, .pointer (some ⟨w.heap.size, 2, none⟩), .slice Aw nw cw, undef, .slice (some ⟨g8, 0, none⟩) 0 0, .pointer (some ⟨w.heap.size, 8, none⟩), .slice Al nl cl, undef, undef, undef, undef, undef, undef, undef, undef, undef, undef, undef, undef, undef, undef, undef, undef, undef, undef, undef, undef, undef, undef, undef, undef, undef, undef, undef, undef, undef, undef, undef, undef, undef, undef, undef, undef, undef, undef, undef, undef, undef, undef, undef, undef, undef, undef, undef, undef, undef, undef, undef, undef, undef, undef, undef, undef, undef, undef, undef, undef, undef, undef, undef, undef, undef, undef, undef, undef, undef, undef, undef, undef, undef, undef, undef, undef, undef, undef, undef, undef, undef, undef, undef, undef, undef, undef, undef, undef, undef, undef, undef, undef, undef, undef, undef, undef, undef, undef, undef, undef, undef, undef, undef, undef, undef, undef, undef, undef, undef, undef, undef, undef, undef, undef, undef, undef, undef, undef, undef, undef, undef, undef, undef, undef, undef, undef, undef, undef, undef, undef, undef, undef, undef, undef, undef, undef, undef, undef, undef, undef, undef, undef, undef, undef, undef, undef, undef, undef, undef, undef, undef, undef, undef, undef, undef, undef, undef, undef, undef, undef, undef, undef, undef, undef, undef, undef, undef, undef, undef, undef, undef, undef, undef, undef, undef, undef, undef, undef, undef, undef, undef, undef, undef, undef, undef, undef], defers := [] } W := by
   intro W g8 hE fr8
   refine wpAnyH_ready (rs := [0, 4]) (by rw [hO.out]; kernel_rfl) (by simp) ?_
   refine AllReadyH.cons (by rw [hO.out]; rfl) (fun K hK => ?_) (AllReadyH.cons (by rw [hO.out]; rfl) (fun K hK => ?_) (AllReadyH.nil))
   ·
    go_simp
    generalize hW9 : World.alloc W _ = w9
    have hE8 : Ev W w9 := by rw [← hW9]; exact Ev.alloc (Ev.refl _) _
    have hx9 : Ev W2 w9 := hE.trans hE8
    have hr9 := hid (show w9.ownsRow W2.heap.size 87 2 (.slice (some ⟨W.heap.size, 0, none⟩) 0 0) 0 [] from by rw [← hW9]; exact World.ownsRow_lit W #[] 0 hE.size (by decide) rfl)
    clear hW9
    refine hK.out _ _ (HSE.out _ hx9) (fun hHeld => ?_)
    (try simp only [Act.put, sA, sB, sC])
    exact N_0_8_0 _ _ g8 hx9 hr9 (hid (fr8.out.ev hE8))
   ·
    go_simp
    generalize hW9 : World.alloc W _ = w9
    have hE8 : Ev W w9 := by rw [← hW9]; exact Ev.alloc (Ev.refl _) _
    have hx9 : Ev W2 w9 := hE.trans hE8
    have hr9 := hid (show w9.ownsRow W2.heap.size 3 1 (.slice (some ⟨W.heap.size, 0, none⟩) 0 0) 0 [] from by rw [← hW9]; exact World.ownsRow_lit W #[] 0 hE.size (by decide) rfl)
    clear hW9
    refine hK.out _ _ (HSE.out _ hx9) (fun hHeld => ?_)
    (try simp only [Act.put, sA, sB, sC])
    exact N_4_8_0 _ _ g8 hx9 hr9 (hid (fr8.out.ev hE8))
  have N__0 : ∀ (W : World), Ev W2 W → wpAnyH Try.prog .any O q (fun w' => (∀ o, w'.cell? ⟨w.heap.size, o, none⟩ = W2.cell? ⟨w.heap.size, o, none⟩)) 12 #[false, true, true, false, false, true, true, false, false, true, true, false, false, false, false, false, false, false] { tmps := #[.agg #[.int .i64 f.last, .slice Ag ng cg, .slice Aw nw cw, .slice Ab nb cb, .slice Ac nc cc, .int .i64 f.ripe, .int .i64 f.late, .int .i64 f.trod, .slice Al nl cl], .int .u8 a, .int .u8 b, .int .u16 c, .pointer (some ⟨w.heap.size, 0, none⟩), undef, undef, undef, .bool false, .pointer (some ⟨p, 0, none⟩), undef, undef, undef, undef, undef, undef, undef, undef, undef, undef, undef, undef, undef, undef, undef, undef, undef, undef, undef, undef, undef, .agg #[.int .i64 f.last, .slice Ag ng cg, .slice Aw nw cw, .slice Ab nb cb, .slice Ac nc cc, .int .i64 f.ripe, .int .i64 f.late, .int .i64 f.trod, .slice Al nl cl], .bool true, .bool false, undef, .agg #[.int .i64 f.last, .slice Ag ng cg, .slice Aw nw cw, .slice Ab nb cb, .slice Ac nc cc, .int .i64 f.ripe, .int .i64 f.late, .int .i64 f.trod, .slice Al nl cl], undef, .pointer (some ⟨w.heap.size, 1, none⟩), .slice Ag ng cg, undef, undef, .pointer (some ⟨w.heap.size, 2, none⟩), .slice Aw nw cw, undef, undef, .pointer (some ⟨w.heap.size, 8, none⟩), .slice Al nl cl, undef, undef, undef, undef, undef, undef, undef, undef, undef, undef, undef, undef, undef, undef, undef, undef, undef, undef, undef, undef, undef, undef, undef, undef, undef, undef, undef, undef, undef, undef, undef, undef, undef, undef, undef, undef, undef, undef, undef, undef, undef, undef, undef, undef, undef, undef, undef, undef, undef, undef, undef, undef, undef, undef, undef, undef, undef, undef, undef, undef, undef, undef, undef, undef, undef, undef, undef, undef, undef, undef, undef, undef, undef, undef, undef, undef, undef, undef, undef, undef, undef, undef, undef, undef, undef, undef, undef, undef, undef, undef, undef, undef, undef, undef, undef, undef, undef, undef, undef, undef, undef, undef, undef, undef, undef, undef, undef, undef, undef, undef, undef, undef, undef, undef, undef, undef, undef, undef, undef, undef, undef, undef, undef, undef, undef, undef, undef, undef, undef, undef, undef, undef, undef, undef, undef, undef, undef, undef, undef, undef, undef, undef, undef, undef, undef, undef, undef, undef, undef, undef, undef, undef, undef, undef, undef, undef, undef, undef, undef, undef, undef, undef, undef, undef, undef, undef, undef, undef, undef, undef, undef, undef, undef, undef, undef, undef, undef, undef, undef, undef, undef, undef, undef, undef, undef, undef], defers := [] } W := by
   intro W  hE 
   refine wpAnyH_ready (rs := [0, 4, 8]) (by rw [hO.out]; kernel_rfl) (by simp) ?_
   refine AllReadyH.cons (by rw [hO.out]; rfl) (fun K hK => ?_) (AllReadyH.cons (by rw [hO.out]; rfl) (fun K hK => ?_) (AllReadyH.cons (by rw [hO.out]; rfl) (fun K hK => ?_) (AllReadyH.nil)))
   ·
    go_simp
    generalize hW9 : World.alloc W _ = w9
    have hE8 : Ev W w9 := by rw [← hW9]; exact Ev.alloc (Ev.refl _) _
    have hx9 : Ev W2 w9 := hE.trans hE8
    have hr9 := hid (show w9.ownsRow W2.heap.size 87 2 (.slice (some ⟨W.heap.size, 0, none⟩) 0 0) 0 [] from by rw [← hW9]; exact World.ownsRow_lit W #[] 0 hE.size (by decide) rfl)
    clear hW9
    refine hK.out _ _ (HSE.out _ hx9) (fun hHeld => ?_)
    (try simp only [Act.put, sA, sB, sC])
    exact N_0_0 _ _ hx9 hr9
   ·
    go_simp
    generalize hW9 : World.alloc W _ = w9
    have hE8 : Ev W w9 := by rw [← hW9]; exact Ev.alloc (Ev.refl _) _
    have hx9 : Ev W2 w9 := hE.trans hE8
    have hr9 := hid (show w9.ownsRow W2.heap.size 3 1 (.slice (some ⟨W.heap.size, 0, none⟩) 0 0) 0 [] from by rw [← hW9]; exact World.ownsRow_lit W #[] 0 hE.size (by decide) rfl)
    clear hW9
    refine hK.out _ _ (HSE.out _ hx9) (fun hHeld => ?_)
    (try simp only [Act.put, sA, sB, sC])
    exact N_4_0 _ _ hx9 hr9
   ·
    go_simp
    generalize hW9 : World.alloc W _ = w9
    have hE8 : Ev W w9 := by rw [← hW9]; exact Ev.alloc (Ev.refl _) _
    have hx9 : Ev W2 w9 := hE.trans hE8
    have hr9 := hid (show w9.ownsRow W2.heap.size 90 3 (.slice (some ⟨W.heap.size, 0, none⟩) 0 0) 0 [] from by rw [← hW9]; exact World.ownsRow_lit W #[] 0 hE.size (by decide) rfl)
    clear hW9
    refine hK.out _ _ (HSE.out _ hx9) (fun hHeld => ?_)
    (try simp only [Act.put, sA, sB, sC])
    exact N_8_0 _ _ hx9 hr9
  exact N__0 _ (Ev.drew (Ev.refl _))
 case rest =>
  clear HSE
  obtain ⟨VG, cG, VW, cW, VL, cL, hE1, HQ1, HX1, HR1, HI1, HK1⟩ := hcut
  obtain ⟨W3, hW3⟩ : ∃ x, x = wc := ⟨_, rfl⟩
  subst hW3
  obtain ⟨y0, y1, y2, y3, y4, y5, y6, y7, y8⟩ := cells9 HX1.out
  go_upto_if 63 with fail
  go_cut [] (fun W => ∃ (VG : Option Addr) (cG : Nat) (VW : Option Addr) (cW : Nat) (VL : Option Addr) (cL : Nat) (G : List M.Rg), Ev w W ∧ Hid (W.heap[w.heap.size]? = some (.cells #[.int .i64 f.last, .slice Ag ng cg, .slice Aw nw cw, .slice Ab nb cb, .slice Ac nc cc, .int .i64 f.ripe, .int .i64 f.late, .int .i64 f.trod, .slice Al nl cl] 26 (0, 0))) ∧ Hid (W.heap[p]? = some (.cells #[.int .i64 f.last, .slice VG ng cG, .slice VW nw cW, .slice Ab nb cb, .slice Ac nc cc, .int .i64 f.ripe, .int .i64 f.late, .int .i64 f.trod, .slice VL nl cL] 26 (0, 0))) ∧ Hid (W.ownsRow W2.heap.size 87 2 (.slice VG ng cG) ng (G.flatMap rgc)) ∧ Hid (W.ownsRow W2.heap.size 3 1 (.slice VW nw cW) nw (f.wet.flatMap ics)) ∧ Hid (W.ownsRow W2.heap.size 90 3 (.slice VL nl cL) nl (f.looks.flatMap lkc)) ∧ Hid (M.Wd f G f.wet f.looks ∧ (a % 3 ≠ 0 → G = f.gr)))
  case first =>
   as_aux_lemma =>
   have hng : f.gr.length = ng := HCS.out.g.len
   have hng0 : 0 < ng := by have h1 := M.valid_parts (M.check_ok h0).1; have h2 := h1.1; have h3 := h1.2.1; omega
   by_cases ha : a % 3 = 0
   ·
    obtain ⟨gx, rfl, lgx, ltx, _, hfx, hcx⟩ := own_someN HR1.out hng0
    obtain ⟨kx, hkx⟩ : ∃ kx : Nat, a / 3 % (ng : Int) = kx := ⟨(a / 3 % ng).toNat, by have := Int.emod_nonneg (a / 3) (show (ng : Int) ≠ 0 by omega); omega⟩
    have hkl : kx < ng := by have := Int.emod_lt_of_pos (a / 3) (show (0 : Int) < ng by omega); omega
    have hnz : ¬ ng = 0 := by omega
    have hkt : (a / 3).tmod (ng : Int) = kx := by rw [Int.tmod_eq_emod_of_nonneg (by omega)]; exact hkx
    obtain ⟨rx, hrx⟩ : ∃ x, f.gr[kx]? = some x := ⟨_, List.getElem?_eq_getElem (show kx < f.gr.length by omega)⟩
    have c1 : W3.cell? ⟨gx, kx * 2, none⟩ = some (.int .i64 rx.lo) := by rw [Nat.mul_comm]; exact hcx _ _ (rgc_at f.gr kx rx hrx).1
    have c2 : W3.cell? ⟨gx, kx * 2 + 1, none⟩ = some (.int .i64 rx.hi) := by rw [Nat.mul_comm]; exact hcx _ _ (rgc_at f.gr kx rx hrx).2
    have hrb := M.gr_le (M.check_ok h0).1 rx (List.mem_of_getElem? hrx)
    have hw1 : IntKind.i64.wrap (rx.lo - b % 3) = rx.lo - b % 3 := IntWalk.i64_in _ (by omega)
    have hw2 : IntKind.i64.wrap (rx.hi + b / 4 % 3) = rx.hi + b / 4 % 3 := IntWalk.i64_in _ (by omega)
    have fx1 := hfx (kx * 2)
    have fx2 := hfx (kx * 2 + 1)
    have hnx := own_neB HR1.out HX1.out (by decide)
    have hnx2 := own_neB HR1.out HQ1.out (by decide)
    have hpg : p ≠ gx := fun e => hnx (by rw [e]; rfl)
    have hqg : w.heap.size ≠ gx := fun e => hnx2 (by rw [e]; rfl)
    clear hnx hnx2
    go_upto_region 8 with fail
    refine wp_region_held_drew (S := fun w' => (∀ o, w'.cell? ⟨p, o, none⟩ = W3.cell? ⟨p, o, none⟩)) (by kernel_rfl) (fun o => rfl) (fun hHeld => ?_)
    refine tkH 0 (some 64) ?_
    (try simp only [Act.put, sA, sB, sC])
    refine tkH 1 (some 65) ?_
    (try simp only [Act.put, sA, sB, sC])
    refine tkH 2 (some 66) ?_
    (try simp only [Act.put, sA, sB, sC])
    refine tkH 3 (some 67) ?_
    (try simp only [Act.put, sA, sB, sC])
    refine tkH 4 (some 68) ?_
    (try simp only [Act.put, sA, sB, sC])
    refine tkH 5 (some 69) ?_
    (try simp only [Act.put, sA, sB, sC])
    refine tkH 6 (some 70) ?_
    (try simp only [Act.put, sA, sB, sC])
    refine tkH 7 (some 71) ?_
    (try simp only [Act.put, sA, sB, sC])
    refine tkH 8 (some 13) ?_
    (try simp only [Act.put, sA, sB, sC])
    refine wpAnyH_done (by kernel_rfl) ?_ _
    go_upto_region 9 with fail
    refine wp_region_held_drew (S := fun _ => True) (by kernel_rfl) (trivial) (fun hHeld => ?_)
    refine tkH 0 (some 72) ?_
    (try simp only [Act.put, sA, sB, sC])
    refine tkH 1 (some 73) ?_
    (try simp only [Act.put, sA, sB, sC])
    refine tkH 2 (some 74) ?_
    (try simp only [Act.put, sA, sB, sC])
    refine tkH 3 (some 75) ?_
    (try simp only [Act.put, sA, sB, sC])
    refine tkH 4 (some 76) ?_
    (try simp only [Act.put, sA, sB, sC])
    refine tkH 6 (some 78) ?_
    (try simp only [Act.put, sA, sB, sC])
    refine tkH 9 (some 81) ?_
    (try simp only [Act.put, sA, sB, sC])
    refine tkH 10 (some 82) ?_
    (try simp only [Act.put, sA, sB, sC])
    refine tkH 11 (some 83) ?_
    (try simp only [Act.put, sA, sB, sC])
    refine tkH 13 (some 85) ?_
    (try simp only [Act.put, sA, sB, sC])
    refine wpAnyH_ready (rs := [5, 12]) (by kernel_rfl) (by simp) ?_
    refine AllReadyH.cons rfl (fun K hK => ?_) (AllReadyH.cons rfl (fun K hK => ?_) (AllReadyH.nil))
    ·
     go_simp
     refine hK.out _ _ (trivial) (fun hHeld => ?_)
     clear hK K
     (try simp only [Act.put, sA, sB, sC])
     refine tkH 7 (some 79) ?_
     (try simp only [Act.put, sA, sB, sC])
     refine tkH 8 (some 80) ?_
     (try simp only [Act.put, sA, sB, sC])
     refine wpAnyH_one (i := 12) rfl (by kernel_rfl) (by rfl) (fun K hK => ?_)
     go_simp
     refine hK.out _ _ (trivial) (fun hHeld => ?_)
     clear hK K
     (try simp only [Act.put, sA, sB, sC])
     refine tkH 14 (some 86) ?_
     (try simp only [Act.put, sA, sB, sC])
     refine tkH 15 (some 87) ?_
     (try simp only [Act.put, sA, sB, sC])
     refine tkH 16 (some 88) ?_
     (try simp only [Act.put, sA, sB, sC])
     refine tkH 17 (some 89) ?_
     (try simp only [Act.put, sA, sB, sC])
     refine wpAnyH_one (i := 18) rfl (by kernel_rfl) (by rfl) (fun K hK => ?_)
     go_simp
     refine hK.out _ _ (trivial) (fun hHeld => ?_)
     clear hK K
     (try simp only [Act.put, sA, sB, sC])
     refine tkH 19 (some 90) ?_
     (try simp only [Act.put, sA, sB, sC])
     refine tkH 20 (some 91) ?_
     (try simp only [Act.put, sA, sB, sC])
     refine wpAnyH_one (i := 21) rfl (by kernel_rfl) (by rfl) (fun K hK => ?_)
     go_simp
     refine hK.out _ _ (trivial) (fun hHeld => ?_)
     clear hK K
     (try simp only [Act.put, sA, sB, sC])
     refine wpAnyH_done (by kernel_rfl) ?_ _
     go_wp2_with fail
     all_goals (go_meet; exact ⟨some ⟨gx, 0, none⟩, cG, VW, cW, VL, cL, f.gr.set kx (M.wdR rx (b % 3) (b / 4 % 3) 50), Ev.drew (Ev.drew (Ev.setCell (p := ⟨gx, kx * 2 + 1, none⟩) (Ev.setCell (p := ⟨gx, kx * 2, none⟩) hE1 (show w.heap.size ≤ gx by omega) _) (show w.heap.size ≤ gx by omega) _)), hid (set_heap (set_heap HQ1.out hqg) hqg), hid (set_heap (set_heap HX1.out hpg) hpg), hid ((own_wideR HR1.out (by omega) (by show _ = max 0 (rx.lo - b % 3); omega) (by show _ = min 50 (rx.hi + b / 4 % 3); omega)).ev (Ev.drew (Ev.drew (Ev.refl _)))), hid ((own_setR (own_putN HR1.out _ _) (own_setR HR1.out HI1.out (by decide)) (by decide)).ev (Ev.drew (Ev.drew (Ev.refl _)))), hid ((own_setR (own_putN HR1.out _ _) (own_setR HR1.out HK1.out (by decide)) (by decide)).ev (Ev.drew (Ev.drew (Ev.refl _)))), hid ⟨M.wd_gr (M.check_ok h0).1 (by omega) (by omega) hrx, fun h => absurd ha h⟩⟩)
    ·
     go_simp
     refine hK.out _ _ (trivial) (fun hHeld => ?_)
     clear hK K
     (try simp only [Act.put, sA, sB, sC])
     refine tkH 14 (some 86) ?_
     (try simp only [Act.put, sA, sB, sC])
     refine tkH 15 (some 87) ?_
     (try simp only [Act.put, sA, sB, sC])
     refine wpAnyH_one (i := 5) rfl (by kernel_rfl) (by rfl) (fun K hK => ?_)
     go_simp
     refine hK.out _ _ (trivial) (fun hHeld => ?_)
     clear hK K
     (try simp only [Act.put, sA, sB, sC])
     refine tkH 7 (some 79) ?_
     (try simp only [Act.put, sA, sB, sC])
     refine tkH 8 (some 80) ?_
     (try simp only [Act.put, sA, sB, sC])
     refine tkH 16 (some 88) ?_
     (try simp only [Act.put, sA, sB, sC])
     refine tkH 17 (some 89) ?_
     (try simp only [Act.put, sA, sB, sC])
     refine wpAnyH_one (i := 18) rfl (by kernel_rfl) (by rfl) (fun K hK => ?_)
     go_simp
     refine hK.out _ _ (trivial) (fun hHeld => ?_)
     clear hK K
     (try simp only [Act.put, sA, sB, sC])
     refine tkH 19 (some 90) ?_
     (try simp only [Act.put, sA, sB, sC])
     refine tkH 20 (some 91) ?_
     (try simp only [Act.put, sA, sB, sC])
     refine wpAnyH_one (i := 21) rfl (by kernel_rfl) (by rfl) (fun K hK => ?_)
     go_simp
     refine hK.out _ _ (trivial) (fun hHeld => ?_)
     clear hK K
     (try simp only [Act.put, sA, sB, sC])
     refine wpAnyH_done (by kernel_rfl) ?_ _
     go_wp2_with fail
     all_goals (go_meet; exact ⟨some ⟨gx, 0, none⟩, cG, VW, cW, VL, cL, f.gr.set kx (M.wdR rx (b % 3) (b / 4 % 3) 50), Ev.drew (Ev.drew (Ev.setCell (p := ⟨gx, kx * 2 + 1, none⟩) (Ev.setCell (p := ⟨gx, kx * 2, none⟩) hE1 (show w.heap.size ≤ gx by omega) _) (show w.heap.size ≤ gx by omega) _)), hid (set_heap (set_heap HQ1.out hqg) hqg), hid (set_heap (set_heap HX1.out hpg) hpg), hid ((own_wideR HR1.out (by omega) (by show _ = max 0 (rx.lo - b % 3); omega) (by show _ = min 50 (rx.hi + b / 4 % 3); omega)).ev (Ev.drew (Ev.drew (Ev.refl _)))), hid ((own_setR (own_putN HR1.out _ _) (own_setR HR1.out HI1.out (by decide)) (by decide)).ev (Ev.drew (Ev.drew (Ev.refl _)))), hid ((own_setR (own_putN HR1.out _ _) (own_setR HR1.out HK1.out (by decide)) (by decide)).ev (Ev.drew (Ev.drew (Ev.refl _)))), hid ⟨M.wd_gr (M.check_ok h0).1 (by omega) (by omega) hrx, fun h => absurd ha h⟩⟩)
   ·
    go_wp2_with fail
    go_meet
    exact ⟨VG, cG, VW, cW, VL, cL, f.gr, hE1, HQ1, HX1, HR1, HI1, HK1, hid ⟨M.wd_same f, fun _ => rfl⟩⟩
  case rest =>
  clear y0 y1 y2 y3 y4 y5 y6 y7 y8
  obtain ⟨VG, cG, VW, cW, VL, cL, G, hE2, HQ2, HX2, HR2, HI2, HK2, HD2⟩ := hcut
  obtain ⟨W4, hW4⟩ : ∃ x, x = wc := ⟨_, rfl⟩
  subst hW4
  obtain ⟨y0, y1, y2, y3, y4, y5, y6, y7, y8⟩ := cells9 HX2.out
  go_upto_if 94 with fail
  go_cut [] (fun W => ∃ (VG : Option Addr) (cG : Nat) (VW : Option Addr) (cW : Nat) (VL : Option Addr) (cL : Nat) (G : List M.Rg) (WW : List Int), Ev w W ∧ Hid (W.heap[w.heap.size]? = some (.cells #[.int .i64 f.last, .slice Ag ng cg, .slice Aw nw cw, .slice Ab nb cb, .slice Ac nc cc, .int .i64 f.ripe, .int .i64 f.late, .int .i64 f.trod, .slice Al nl cl] 26 (0, 0))) ∧ Hid (W.heap[p]? = some (.cells #[.int .i64 f.last, .slice VG ng cG, .slice VW nw cW, .slice Ab nb cb, .slice Ac nc cc, .int .i64 f.ripe, .int .i64 f.late, .int .i64 f.trod, .slice VL nl cL] 26 (0, 0))) ∧ Hid (W.ownsRow W2.heap.size 87 2 (.slice VG ng cG) ng (G.flatMap rgc)) ∧ Hid (W.ownsRow W2.heap.size 3 1 (.slice VW nw cW) nw (WW.flatMap ics)) ∧ Hid (W.ownsRow W2.heap.size 90 3 (.slice VL nl cL) nl (f.looks.flatMap lkc)) ∧ Hid (M.Wd f G WW f.looks ∧ (a % 3 = 2 → G = f.gr ∧ WW = f.wet)))
  case first =>
   as_aux_lemma =>
   have hnw : f.wet.length = nw := HCS.out.w_.len
   have hnw0 : 0 < nw := by have h1 := M.valid_parts (M.check_ok h0).1; have h2 := h1.1; have h3 := h1.2.2.2.1; omega
   by_cases ha : a % 3 = 1
   ·
    obtain rfl : G = f.gr := HD2.out.2 (by omega)
    obtain ⟨gx, rfl, lgx, ltx, _, hlx, hfx, hcx⟩ := own_some HI2.out hnw0
    obtain ⟨kx, hkx⟩ : ∃ kx : Nat, a / 3 % (nw : Int) = kx := ⟨(a / 3 % nw).toNat, by have := Int.emod_nonneg (a / 3) (show (nw : Int) ≠ 0 by omega); omega⟩
    have hkl : kx < nw := by have := Int.emod_lt_of_pos (a / 3) (show (0 : Int) < nw by omega); omega
    have hnz : ¬ nw = 0 := by omega
    have hnz1 : (0 : Nat) < nw := hnw0
    have hkt : (a / 3).tmod (nw : Int) = kx := by rw [Int.tmod_eq_emod_of_nonneg (by omega)]; exact hkx
    have fx := hfx kx hkl
    obtain ⟨vx, hvx⟩ : ∃ x, f.wet[kx]? = some x := ⟨_, List.getElem?_eq_getElem (show kx < f.wet.length by omega)⟩
    have ex := hcx kx vx hvx
    have hnx := own_neB HI2.out HX2.out (by decide)
    have hnx2 := own_neB HI2.out HQ2.out (by decide)
    have hpg : p ≠ gx := fun e => hnx (by rw [e]; rfl)
    have hqg : w.heap.size ≠ gx := fun e => hnx2 (by rw [e]; rfl)
    clear hnx hnx2
    go_upto_region 11 with fail
    refine wp_region_held_drew (S := fun w' => (∀ o, w'.cell? ⟨p, o, none⟩ = W4.cell? ⟨p, o, none⟩)) (by kernel_rfl) (fun o => rfl) (fun hHeld => ?_)
    refine tkH 0 (some 95) ?_
    (try simp only [Act.put, sA, sB, sC])
    refine tkH 1 (some 96) ?_
    (try simp only [Act.put, sA, sB, sC])
    refine tkH 2 (some 97) ?_
    (try simp only [Act.put, sA, sB, sC])
    refine tkH 3 (some 98) ?_
    (try simp only [Act.put, sA, sB, sC])
    refine tkH 4 (some 99) ?_
    (try simp only [Act.put, sA, sB, sC])
    refine tkH 5 (some 100) ?_
    (try simp only [Act.put, sA, sB, sC])
    refine tkH 6 (some 101) ?_
    (try simp only [Act.put, sA, sB, sC])
    refine tkH 7 (some 102) ?_
    (try simp only [Act.put, sA, sB, sC])
    refine wpAnyH_one (i := 8) rfl (by kernel_rfl) (by rfl) (fun K hK => ?_)
    go_simp
    generalize hX8 : World.drew (World.setCell W4 _ _) = X8
    have hS8 : ∀ o, X8.cell? ⟨p, o, none⟩ = W4.cell? ⟨p, o, none⟩ := fun o => by rw [← hX8]; exact cell_set_ne hpg
    have HX8 := hid (show X8.heap[p]? = some (.cells #[.int .i64 f.last, .slice VG ng cG, .slice (some ⟨gx, 0, none⟩) nw cW, .slice Ab nb cb, .slice Ac nc cc, .int .i64 f.ripe, .int .i64 f.late, .int .i64 f.trod, .slice VL nl cL] 26 (0, 0)) from by rw [← hX8]; exact set_heap HX2.out hpg)
    have HQ8 := hid (show X8.heap[w.heap.size]? = some (.cells #[.int .i64 f.last, .slice Ag ng cg, .slice Aw nw cw, .slice Ab nb cb, .slice Ac nc cc, .int .i64 f.ripe, .int .i64 f.late, .int .i64 f.trod, .slice Al nl cl] 26 (0, 0)) from by rw [← hX8]; exact set_heap HQ2.out hqg)
    have HI8 := hid (show X8.ownsRow W2.heap.size 3 1 (.slice (some ⟨gx, 0, none⟩) nw cW) nw ((f.wet.set kx 2).flatMap ics) from by rw [← hX8]; exact (own_putI HI2.out kx 2).ev (Ev.drew (Ev.refl _)))
    have HR8 := hid (show X8.ownsRow _ _ _ _ _ _ from by rw [← hX8]; exact (own_setR HI2.out HR2.out (by decide)).ev (Ev.drew (Ev.refl _)))
    have HK8 := hid (show X8.ownsRow _ _ _ _ _ _ from by rw [← hX8]; exact (own_setR HI2.out HK2.out (by decide)).ev (Ev.drew (Ev.refl _)))
    have HE8 := hid (show Ev w X8 from by rw [← hX8]; exact Ev.drew (Ev.setCell (p := ⟨gx, kx, none⟩) hE2 (show w.heap.size ≤ gx by omega) _))
    clear hX8
    refine hK.out _ _ (hS8) (fun hHeld => ?_)
    clear hK K
    (try simp only [Act.put, sA, sB, sC])
    refine wpAnyH_done (by kernel_rfl) ?_ _
    go_wp2_with fail
    go_meet
    exact ⟨VG, cG, some ⟨gx, 0, none⟩, cW, VL, cL, f.gr, f.wet.set kx 2, HE8.out, HQ8, HX8, HR8, HI8, HK8, hid ⟨M.wd_wt kx, fun h => absurd h (by omega)⟩⟩
   ·
    go_wp2_with fail
    go_meet
    exact ⟨VG, cG, VW, cW, VL, cL, G, f.wet, hE2, HQ2, HX2, HR2, HI2, HK2, hid ⟨HD2.out.1, fun h => ⟨HD2.out.2 (by omega), rfl⟩⟩⟩
  case rest =>
  clear y0 y1 y2 y3 y4 y5 y6 y7 y8
  obtain ⟨VG, cG, VW, cW, VL, cL, G, WW, hE3, HQ3, HX3, HR3, HI3, HK3, HD3⟩ := hcut
  obtain ⟨W5, hW5⟩ : ∃ x, x = wc := ⟨_, rfl⟩
  subst hW5
  obtain ⟨y0, y1, y2, y3, y4, y5, y6, y7, y8⟩ := cells9 HX3.out
  go_upto_region 13 with fail
  go_cut [112] (fun v W => v = .bool (decide (a % 3 = 2 ∧ 0 < nl)) ∧ ∃ (VG : Option Addr) (cG : Nat) (VW : Option Addr) (cW : Nat) (VL : Option Addr) (cL : Nat) (G : List M.Rg) (WW : List Int), Ev w W ∧ Hid (W.heap[w.heap.size]? = some (.cells #[.int .i64 f.last, .slice Ag ng cg, .slice Aw nw cw, .slice Ab nb cb, .slice Ac nc cc, .int .i64 f.ripe, .int .i64 f.late, .int .i64 f.trod, .slice Al nl cl] 26 (0, 0))) ∧ Hid (W.heap[p]? = some (.cells #[.int .i64 f.last, .slice VG ng cG, .slice VW nw cW, .slice Ab nb cb, .slice Ac nc cc, .int .i64 f.ripe, .int .i64 f.late, .int .i64 f.trod, .slice VL nl cL] 26 (0, 0))) ∧ Hid (W.ownsRow W2.heap.size 87 2 (.slice VG ng cG) ng (G.flatMap rgc)) ∧ Hid (W.ownsRow W2.heap.size 3 1 (.slice VW nw cW) nw (WW.flatMap ics)) ∧ Hid (W.ownsRow W2.heap.size 90 3 (.slice VL nl cL) nl (f.looks.flatMap lkc)) ∧ Hid (M.Wd f G WW f.looks ∧ (a % 3 = 2 → G = f.gr ∧ WW = f.wet)))
  case first =>
   as_aux_lemma =>
   by_cases ha : a % 3 = 2
   ·
    by_cases hl : 0 < nl
    ·
     have hl2 : (0 : Int) < nl := by omega
     go_wp2_with fail
     go_meet
     exact ⟨by simp [ha, hl], VG, cG, VW, cW, VL, cL, G, WW, hE3, HQ3, HX3, HR3, HI3, HK3, HD3⟩
    ·
     have hl2 : ¬ (0 : Int) < nl := by omega
     go_wp2_with fail
     go_meet
     exact ⟨by simp [ha, hl], VG, cG, VW, cW, VL, cL, G, WW, hE3, HQ3, HX3, HR3, HI3, HK3, HD3⟩
   ·
    go_wp2_with fail
    go_meet
    exact ⟨by simp [ha], VG, cG, VW, cW, VL, cL, G, WW, hE3, HQ3, HX3, HR3, HI3, HK3, HD3⟩
  case rest =>
  clear y0 y1 y2 y3 y4 y5 y6 y7 y8
  obtain ⟨rfl, hcut⟩ := hcut
  obtain ⟨VG, cG, VW, cW, VL, cL, G, WW, hE33, HQ33, HX33, HR33, HI33, HK33, HD33⟩ := hcut
  obtain ⟨W6, hW6⟩ : ∃ x, x = wc := ⟨_, rfl⟩
  subst hW6
  obtain ⟨y0, y1, y2, y3, y4, y5, y6, y7, y8⟩ := cells9 HX33.out
  go_upto_if 112 with fail
  go_cut [] (fun W => ∃ (VG : Option Addr) (cG : Nat) (VW : Option Addr) (cW : Nat) (VL : Option Addr) (cL : Nat) (G : List M.Rg) (WW : List Int) (L : List M.Lk), Ev w W ∧ Hid (W.heap[w.heap.size]? = some (.cells #[.int .i64 f.last, .slice Ag ng cg, .slice Aw nw cw, .slice Ab nb cb, .slice Ac nc cc, .int .i64 f.ripe, .int .i64 f.late, .int .i64 f.trod, .slice Al nl cl] 26 (0, 0))) ∧ Hid (W.heap[p]? = some (.cells #[.int .i64 f.last, .slice VG ng cG, .slice VW nw cW, .slice Ab nb cb, .slice Ac nc cc, .int .i64 f.ripe, .int .i64 f.late, .int .i64 f.trod, .slice VL nl cL] 26 (0, 0))) ∧ Hid (W.ownsRow W2.heap.size 87 2 (.slice VG ng cG) ng (G.flatMap rgc)) ∧ Hid (W.ownsRow W2.heap.size 3 1 (.slice VW nw cW) nw (WW.flatMap ics)) ∧ Hid (W.ownsRow W2.heap.size 90 3 (.slice VL nl cL) nl (L.flatMap lkc)) ∧ Hid (M.Wd f G WW L))
  case first =>
   as_aux_lemma =>
   by_cases ha : a % 3 = 2 ∧ 0 < nl
   ·
    have hd := decide_eq_true ha
    obtain ⟨rfl, rfl⟩ : G = f.gr ∧ WW = f.wet := HD33.out.2 ha.1
    have hnl : f.looks.length = nl := HCS.out.l.len
    obtain ⟨gx, rfl, lgx, ltx, _, hfx, hcx⟩ := own_someN HK33.out ha.2
    obtain ⟨kx, hkx⟩ : ∃ kx : Nat, a / 3 % (nl : Int) = kx := ⟨(a / 3 % nl).toNat, by have := Int.emod_nonneg (a / 3) (show (nl : Int) ≠ 0 by omega); omega⟩
    have hkl : kx < nl := by have := Int.emod_lt_of_pos (a / 3) (show (0 : Int) < nl by omega); omega
    have hnz : ¬ nl = 0 := by omega
    have hkt : (a / 3).tmod (nl : Int) = kx := by rw [Int.tmod_eq_emod_of_nonneg (by omega)]; exact hkx
    obtain ⟨rx, hrx⟩ : ∃ x, f.looks[kx]? = some x := ⟨_, List.getElem?_eq_getElem (show kx < f.looks.length by omega)⟩
    have c1 : W6.cell? ⟨gx, kx * 3 + 1, none⟩ = some (.int .i64 rx.ct.lo) := by rw [Nat.mul_comm]; exact hcx _ _ (lkc_at f.looks kx rx hrx).1
    have c2 : W6.cell? ⟨gx, kx * 3 + 2, none⟩ = some (.int .i64 rx.ct.hi) := by rw [Nat.mul_comm]; exact hcx _ _ (lkc_at f.looks kx rx hrx).2
    have hrb := (M.valid_parts (M.check_ok h0).1).2.2.2.2.2.2.2.2.2.2.2.2 rx (List.mem_of_getElem? hrx)
    unfold M.validLook M.upTo at hrb
    simp only [Bool.and_eq_true, decide_eq_true_eq] at hrb
    have hw1 : IntKind.i64.wrap (rx.ct.lo - b % 3) = rx.ct.lo - b % 3 := IntWalk.i64_in _ (by omega)
    have hw2 : IntKind.i64.wrap (rx.ct.hi + b / 4 % 3) = rx.ct.hi + b / 4 % 3 := IntWalk.i64_in _ (by omega)
    have fx1 := hfx (kx * 3 + 1)
    have fx2 := hfx (kx * 3 + 2)
    have hnx := own_neB HK33.out HX33.out (by decide)
    have hnx2 := own_neB HK33.out HQ33.out (by decide)
    have hpg : p ≠ gx := fun e => hnx (by rw [e]; rfl)
    have hqg : w.heap.size ≠ gx := fun e => hnx2 (by rw [e]; rfl)
    clear hnx hnx2
    go_upto_region 14 with fail
    refine wp_region_held_drew (S := fun w' => (∀ o, w'.cell? ⟨p, o, none⟩ = W6.cell? ⟨p, o, none⟩)) (by kernel_rfl) (fun o => rfl) (fun hHeld => ?_)
    refine tkH 0 (some 113) ?_
    (try simp only [Act.put, sA, sB, sC])
    refine tkH 1 (some 114) ?_
    (try simp only [Act.put, sA, sB, sC])
    refine tkH 2 (some 115) ?_
    (try simp only [Act.put, sA, sB, sC])
    refine tkH 3 (some 116) ?_
    (try simp only [Act.put, sA, sB, sC])
    refine tkH 4 (some 117) ?_
    (try simp only [Act.put, sA, sB, sC])
    refine tkH 5 (some 118) ?_
    (try simp only [Act.put, sA, sB, sC])
    refine tkH 6 (some 119) ?_
    (try simp only [Act.put, sA, sB, sC])
    refine tkH 7 (some 15) ?_
    (try simp only [Act.put, sA, sB, sC])
    refine wpAnyH_done (by kernel_rfl) ?_ _
    go_upto_region 15 with fail
    refine wp_region_held_drew (S := fun _ => True) (by kernel_rfl) (trivial) (fun hHeld => ?_)
    refine tkH 0 (some 120) ?_
    (try simp only [Act.put, sA, sB, sC])
    refine tkH 1 (some 121) ?_
    (try simp only [Act.put, sA, sB, sC])
    refine tkH 2 (some 122) ?_
    (try simp only [Act.put, sA, sB, sC])
    refine tkH 3 (some 123) ?_
    (try simp only [Act.put, sA, sB, sC])
    refine tkH 4 (some 124) ?_
    (try simp only [Act.put, sA, sB, sC])
    refine tkH 6 (some 126) ?_
    (try simp only [Act.put, sA, sB, sC])
    refine tkH 9 (some 129) ?_
    (try simp only [Act.put, sA, sB, sC])
    refine tkH 10 (some 130) ?_
    (try simp only [Act.put, sA, sB, sC])
    refine tkH 11 (some 131) ?_
    (try simp only [Act.put, sA, sB, sC])
    refine tkH 13 (some 133) ?_
    (try simp only [Act.put, sA, sB, sC])
    refine wpAnyH_ready (rs := [5, 12]) (by kernel_rfl) (by simp) ?_
    refine AllReadyH.cons rfl (fun K hK => ?_) (AllReadyH.cons rfl (fun K hK => ?_) (AllReadyH.nil))
    ·
     go_simp
     refine hK.out _ _ (trivial) (fun hHeld => ?_)
     clear hK K
     (try simp only [Act.put, sA, sB, sC])
     refine tkH 7 (some 127) ?_
     (try simp only [Act.put, sA, sB, sC])
     refine tkH 8 (some 128) ?_
     (try simp only [Act.put, sA, sB, sC])
     refine wpAnyH_one (i := 12) rfl (by kernel_rfl) (by rfl) (fun K hK => ?_)
     go_simp
     refine hK.out _ _ (trivial) (fun hHeld => ?_)
     clear hK K
     (try simp only [Act.put, sA, sB, sC])
     refine tkH 14 (some 134) ?_
     (try simp only [Act.put, sA, sB, sC])
     refine tkH 15 (some 135) ?_
     (try simp only [Act.put, sA, sB, sC])
     refine tkH 16 (some 136) ?_
     (try simp only [Act.put, sA, sB, sC])
     refine tkH 17 (some 137) ?_
     (try simp only [Act.put, sA, sB, sC])
     refine wpAnyH_one (i := 18) rfl (by kernel_rfl) (by rfl) (fun K hK => ?_)
     go_simp
     refine hK.out _ _ (trivial) (fun hHeld => ?_)
     clear hK K
     (try simp only [Act.put, sA, sB, sC])
     refine tkH 19 (some 138) ?_
     (try simp only [Act.put, sA, sB, sC])
     refine tkH 20 (some 139) ?_
     (try simp only [Act.put, sA, sB, sC])
     refine wpAnyH_one (i := 21) rfl (by kernel_rfl) (by rfl) (fun K hK => ?_)
     go_simp
     refine hK.out _ _ (trivial) (fun hHeld => ?_)
     clear hK K
     (try simp only [Act.put, sA, sB, sC])
     refine wpAnyH_done (by kernel_rfl) ?_ _
     go_wp2_with fail
     all_goals (go_meet; exact ⟨VG, cG, VW, cW, some ⟨gx, 0, none⟩, cL, f.gr, f.wet, f.looks.set kx ⟨rx.wk, M.wdR rx.ct (b % 3) (b / 4 % 3) 1000⟩, Ev.drew (Ev.drew (Ev.setCell (p := ⟨gx, kx * 3 + 2, none⟩) (Ev.setCell (p := ⟨gx, kx * 3 + 1, none⟩) hE33 (show w.heap.size ≤ gx by omega) _) (show w.heap.size ≤ gx by omega) _)), hid (set_heap (set_heap HQ33.out hqg) hqg), hid (set_heap (set_heap HX33.out hpg) hpg), hid ((own_setR (own_putN HK33.out _ _) (own_setR HK33.out HR33.out (by decide)) (by decide)).ev (Ev.drew (Ev.drew (Ev.refl _)))), hid ((own_setR (own_putN HK33.out _ _) (own_setR HK33.out HI33.out (by decide)) (by decide)).ev (Ev.drew (Ev.drew (Ev.refl _)))), hid ((own_wideL HK33.out hrx (by show _ = max 0 (rx.ct.lo - b % 3); omega) (by show _ = min 1000 (rx.ct.hi + b / 4 % 3); omega)).ev (Ev.drew (Ev.drew (Ev.refl _)))), hid (M.wd_lk (M.check_ok h0).1 (by omega) (by omega) hrx)⟩)
    ·
     go_simp
     refine hK.out _ _ (trivial) (fun hHeld => ?_)
     clear hK K
     (try simp only [Act.put, sA, sB, sC])
     refine tkH 14 (some 134) ?_
     (try simp only [Act.put, sA, sB, sC])
     refine tkH 15 (some 135) ?_
     (try simp only [Act.put, sA, sB, sC])
     refine wpAnyH_one (i := 5) rfl (by kernel_rfl) (by rfl) (fun K hK => ?_)
     go_simp
     refine hK.out _ _ (trivial) (fun hHeld => ?_)
     clear hK K
     (try simp only [Act.put, sA, sB, sC])
     refine tkH 7 (some 127) ?_
     (try simp only [Act.put, sA, sB, sC])
     refine tkH 8 (some 128) ?_
     (try simp only [Act.put, sA, sB, sC])
     refine tkH 16 (some 136) ?_
     (try simp only [Act.put, sA, sB, sC])
     refine tkH 17 (some 137) ?_
     (try simp only [Act.put, sA, sB, sC])
     refine wpAnyH_one (i := 18) rfl (by kernel_rfl) (by rfl) (fun K hK => ?_)
     go_simp
     refine hK.out _ _ (trivial) (fun hHeld => ?_)
     clear hK K
     (try simp only [Act.put, sA, sB, sC])
     refine tkH 19 (some 138) ?_
     (try simp only [Act.put, sA, sB, sC])
     refine tkH 20 (some 139) ?_
     (try simp only [Act.put, sA, sB, sC])
     refine wpAnyH_one (i := 21) rfl (by kernel_rfl) (by rfl) (fun K hK => ?_)
     go_simp
     refine hK.out _ _ (trivial) (fun hHeld => ?_)
     clear hK K
     (try simp only [Act.put, sA, sB, sC])
     refine wpAnyH_done (by kernel_rfl) ?_ _
     go_wp2_with fail
     all_goals (go_meet; exact ⟨VG, cG, VW, cW, some ⟨gx, 0, none⟩, cL, f.gr, f.wet, f.looks.set kx ⟨rx.wk, M.wdR rx.ct (b % 3) (b / 4 % 3) 1000⟩, Ev.drew (Ev.drew (Ev.setCell (p := ⟨gx, kx * 3 + 2, none⟩) (Ev.setCell (p := ⟨gx, kx * 3 + 1, none⟩) hE33 (show w.heap.size ≤ gx by omega) _) (show w.heap.size ≤ gx by omega) _)), hid (set_heap (set_heap HQ33.out hqg) hqg), hid (set_heap (set_heap HX33.out hpg) hpg), hid ((own_setR (own_putN HK33.out _ _) (own_setR HK33.out HR33.out (by decide)) (by decide)).ev (Ev.drew (Ev.drew (Ev.refl _)))), hid ((own_setR (own_putN HK33.out _ _) (own_setR HK33.out HI33.out (by decide)) (by decide)).ev (Ev.drew (Ev.drew (Ev.refl _)))), hid ((own_wideL HK33.out hrx (by show _ = max 0 (rx.ct.lo - b % 3); omega) (by show _ = min 1000 (rx.ct.hi + b / 4 % 3); omega)).ev (Ev.drew (Ev.drew (Ev.refl _)))), hid (M.wd_lk (M.check_ok h0).1 (by omega) (by omega) hrx)⟩)
   ·
    have hd := decide_eq_false ha
    go_wp2_with fail
    go_meet
    exact ⟨VG, cG, VW, cW, VL, cL, G, WW, f.looks, hE33, HQ33, HX33, HR33, HI33, HK33, hid HD33.out.1⟩
  case rest =>
  clear y0 y1 y2 y3 y4 y5 y6 y7 y8
  obtain ⟨VG, cG, VW, cW, VL, cL, G, WW, L, hE5, HQ5, HX5, HR4, HI4, HK4, HD4⟩ := hcut
  obtain ⟨W5, hW5⟩ : ∃ x, x = wc := ⟨_, rfl⟩
  subst hW5
  obtain ⟨y0, y1, y2, y3, y4, y5, y6, y7, y8⟩ := cells9 HX5.out
  have HSX := hid (show CS W5 W5.heap.size (M.wid f G WW L) VG VW Ab Ac VL ng cG nw cW nb cb nc cc nl cL from ⟨sl_own (by decide) (rgc_len _) (by omega) HR4.out, sl_own (by decide) (ics_len _) (by omega) HI4.out, (HCS.out.ev hE5).b, (HCS.out.ev hE5).c, sl_own (by decide) (lkc_len _) (by omega) HK4.out⟩)
  have HRY := hid (fun W (hE : Ev W5 W) => readyW_c f G WW L VG VW Ab Ac VL ng cG nw cW nb cb nc cc nl cL hl0 W (fun _ => HSX.out.ev hE))
  clear HR4 HI4 HK4
  obtain ⟨q0, q1, q2, q3, q4, q5, q6, q7, q8⟩ := cells9 HQ5.out
  go_upto_region 16 with fail
  cases hrx : M.rdy (M.wid f G WW L) ng nw nb nc nl with
  | false =>
   rw [hrx] at HRY
   clear hrx
   go_wp2_with (first | (go_at_call 37; with_reducible refine (HRY.out _ (Ev.refl _)).mono ?_; rintro e w6 ⟨rfl, hb6⟩) | (go_at_call 14; with_reducible refine (awake_c _).mono ?_; rintro e w99 ⟨rfl, hb99⟩) | (with_reducible refine ⟨trivial, ?_⟩))
   go_ret
   exact ⟨rfl, (hE5.trans hb6).trans hb99⟩
  | true =>
   rw [hrx] at HRY
   have h0x : M.check (M.wid f G WW L) = 0 := by unfold M.rdy at hrx; rw [Bool.and_eq_true, Bool.and_eq_true, decide_eq_true_eq, decide_eq_true_eq] at hrx; exact hrx.2
   clear hrx
   have hlen : f.looks.length = nl := HCS.out.l.len
   have hl5 : nl ≤ 5 := by rw [← hlen]; exact (M.check0 h0).2.2.1
   have hbl := HCS.out.b.len
   have hv := (M.check_ok h0).1
   have hl9 := (M.check0 h0).1
   have hb3 := (M.check0 h0).2.1
   have HM := hid (HD4.out.leave h0 h0x hlen)
   have HN := hid (fun h => M.leave_nil h0 hlen h)
   have HM7 := hid (show (M.shortest (M.spares f) nl).length ≤ 7 from by obtain ⟨_, _, _, _, h7, _⟩ := M.leave_spec h0 hlen; exact h7)
   have HLF := hid (fun (Bg Bw Bb Bc Bl : Option Addr) (kg dg kw dw kb db kc dc dl : Nat) W (h : CS W W.heap.size f Bg Bw Bb Bc Bl kg dg kw dw kb db kc dc nl dl) => Leave_ok f Bg Bw Bb Bc Bl kg dg kw dw kb db kc dc nl dl hl0 W h h0)
   have HLX := hid (fun (Bg Bw Bb Bc Bl : Option Addr) (kg dg kw dw kb db kc dc dl : Nat) W (h : CS W W.heap.size (M.wid f G WW L) Bg Bw Bb Bc Bl kg dg kw dw kb db kc dc nl dl) => LeaveW_ok f G WW L Bg Bw Bb Bc Bl kg dg kw dw kb db kc dc nl dl hl0 W h h0x)
   have HPN := hid (fun W => planned_c f Ag Aw Ab Ac Al ng cg nw cw nb cb nc cc nl cl hv hl9 c c0 c1 W hbl (by omega))
   clear hlen
   generalize M.shortest (M.spares f) nl = sf at HLF HM HM7 HN
   generalize M.shortest (M.spares (M.wid f G WW L)) nl = sx at HLX HM
   go_upto_region 18 with (first | (go_at_call 37; with_reducible refine (HRY.out _ (Ev.refl _)).mono ?_; rintro e w7 ⟨rfl, hb7⟩; have HP0 := hid hb7; clear hb7; clear y0 y1 y2 y3 y4 y5 y6 y7 y8; clear q0 q1 q2 q3 q4 q5 q6 q7 q8; obtain ⟨y0, y1, y2, y3, y4, y5, y6, y7, y8⟩ := cells9 (HP0.out.heap HX5.out); obtain ⟨q0, q1, q2, q3, q4, q5, q6, q7, q8⟩ := cells9 (HP0.out.heap HQ5.out)) | (with_reducible refine ⟨trivial, ?_⟩))
   go_upto_region 19 with (first | (go_at_call 16; with_reducible refine (Field_c f Ag Aw Ab Ac Al ng cg nw cw nb cb nc cc nl cl (by omega) (by omega) (by omega) (by omega) (by omega) _ (HCS.out.ev (hE5.trans HP0.out))).mono ?_; rintro e x1 ⟨⟨Bg1, dg1, Bw1, dw1, Bb1, db1, Bc1, dc1, Bl1, dl1, rfl, hc⟩, hb⟩; have HP1 := hid ((HP0.out).trans hb); have HC1 := hid hc; clear hc hb) | (go_at_call 31; with_reducible refine (HLF.out Bg1 Bw1 Bb1 Bc1 Bl1 ng dg1 nw dw1 nb db1 nc dc1 dl1 _ HC1.out).mono ?_; rintro e x2 ⟨⟨LB2, ld2, rfl, _⟩, hb⟩; have HP2 := hid (HP1.out.trans hb); clear hb; clear y0 y1 y2 y3 y4 y5 y6 y7 y8; clear q0 q1 q2 q3 q4 q5 q6 q7 q8; obtain ⟨y0, y1, y2, y3, y4, y5, y6, y7, y8⟩ := cells9 (HP2.out.heap HX5.out); obtain ⟨q0, q1, q2, q3, q4, q5, q6, q7, q8⟩ := cells9 (HP2.out.heap HQ5.out)))
   go_upto_region 20 with (first | (go_at_call 16; with_reducible refine (FieldW_c f G WW L VG VW Ab Ac VL ng cG nw cW nb cb nc cc nl cL (by omega) (by omega) (by omega) (by omega) (by omega) _ (HSX.out.ev HP2.out)).mono ?_; rintro e x3 ⟨⟨Bg3, dg3, Bw3, dw3, Bb3, db3, Bc3, dc3, Bl3, dl3, rfl, hc⟩, hb⟩; have HP3 := hid ((HP2.out).trans hb); have HC3 := hid hc; clear hc hb) | (go_at_call 31; with_reducible refine (HLX.out Bg3 Bw3 Bb3 Bc3 Bl3 ng dg3 nw dw3 nb db3 nc dc3 dl3 _ HC3.out).mono ?_; rintro e x4 ⟨⟨LB4, ld4, rfl, _⟩, hb⟩; have HP4 := hid (HP3.out.trans hb); clear hb; clear y0 y1 y2 y3 y4 y5 y6 y7 y8; clear q0 q1 q2 q3 q4 q5 q6 q7 q8; obtain ⟨y0, y1, y2, y3, y4, y5, y6, y7, y8⟩ := cells9 (HP4.out.heap HX5.out); obtain ⟨q0, q1, q2, q3, q4, q5, q6, q7, q8⟩ := cells9 (HP4.out.heap HQ5.out)))
   have hm1 := HM.out
   have hm7 := HM7.out
   have g3 : ¬ ((sx.length : Int) > sf.length) := by omega
   have g3' : ¬ ((sf.length : Int) < sx.length) := by omega
   by_cases hm0 : 0 < sf.length
   ·
    have g4 : (0 : Int) < sf.length := by omega
    go_wp2_with (first | (go_at_call 14; with_reducible refine (awake_c _).mono ?_; rintro e w99 ⟨rfl, hb99⟩) | (with_reducible refine ⟨trivial, ?_⟩))
    go_ret
    exact ⟨rfl, (hE5.trans HP4.out).trans hb99⟩
   ·
    have g4 : ¬ ((0 : Int) < sf.length) := by omega
    have htf : M.truths f ≠ [] := HN.out (by omega)
    have htx : M.truths (M.wid f G WW L) ≠ [] := fun e => by
     cases ht : M.truths f with
     | nil => exact htf ht
     | cons t r => have := HD4.out.truths h0 h0x t (by rw [ht]; simp); rw [e] at this; cases this
    have hbst := HD4.out.best h0 h0x htf
    have HBF := hid (fun (Bg Bw Bb Bc Bl : Option Addr) (kg dg kw dw kb db kc dc kl dl : Nat) W (h : CS W W.heap.size f Bg Bw Bb Bc Bl kg dg kw dw kb db kc dc kl dl) => Best_ok f Bg Bw Bb Bc Bl kg dg kw dw kb db kc dc kl dl hl0 W h (M.begin_is h0 rfl htf))
    have HBX := hid (fun (Bg Bw Bb Bc Bl : Option Addr) (kg dg kw dw kb db kc dc kl dl : Nat) W (h : CS W W.heap.size (M.wid f G WW L) Bg Bw Bb Bc Bl kg dg kw dw kb db kc dc kl dl) => BestW_ok f G WW L Bg Bw Bb Bc Bl kg dg kw dw kb db kc dc kl dl hl0 W h (M.begin_is h0x rfl htx))
    have HSP := hid (HD4.out.worth h0 h0x htf)
    generalize M.best f (M.truths f) = bf at hbst HBF
    generalize M.best (M.wid f G WW L) (M.truths (M.wid f G WW L)) = bx at hbst HBX
    go_upto_region 25 with (first | (go_at_call 39; with_reducible refine (HPN.out _).mono ?_; rintro e x5 ⟨⟨plan, hpl, Lp, dLp, rfl, hsl⟩, hb⟩; have HK5 := hid (Ev.refl x5); have HP5 := hid (HP4.out.trans hb); have HSL := hid hsl; clear hb hsl; clear y0 y1 y2 y3 y4 y5 y6 y7 y8; clear q0 q1 q2 q3 q4 q5 q6 q7 q8; obtain ⟨y0, y1, y2, y3, y4, y5, y6, y7, y8⟩ := cells9 (HP5.out.heap HX5.out); obtain ⟨q0, q1, q2, q3, q4, q5, q6, q7, q8⟩ := cells9 (HP5.out.heap HQ5.out)) | (go_at_call 14; with_reducible refine (awake_c _).mono ?_; rintro e w99 ⟨rfl, hb99⟩) | (with_reducible refine ⟨trivial, ?_⟩))
    generalize hpn : plan.length = pn at HSL ⊢
    have hpb : pn ≤ 3 := by have := (M.plan_parts hpl).1; omega
    have HWF := hid (fun (Bg Bw Bb Bc Bl : Option Addr) (kg dg kw dw kb db kc dc kl dl : Nat) (P : Option Addr) (dP : Nat) W (h : CS W W.heap.size f Bg Bw Bb Bc Bl kg dg kw dw kb db kc dc kl dl) (hp : Sl ics 1 W W.heap.size P pn dP plan) => Worth_ok f Bg Bw Bb Bc Bl kg dg kw dw kb db kc dc kl dl P pn dP plan hl0 W h hp (M.begin_is h0 hpl htf))
    have HWX := hid (fun (Bg Bw Bb Bc Bl : Option Addr) (kg dg kw dw kb db kc dc kl dl : Nat) (P : Option Addr) (dP : Nat) W (h : CS W W.heap.size (M.wid f G WW L) Bg Bw Bb Bc Bl kg dg kw dw kb db kc dc kl dl) (hp : Sl ics 1 W W.heap.size P pn dP plan) => WorthW_ok f G WW L Bg Bw Bb Bc Bl kg dg kw dw kb db kc dc kl dl P pn dP plan hl0 W h hp (M.begin_is h0x hpl htx))
    have hspan := HSP.out plan
    generalize M.worth f plan = wf at hspan HWF
    generalize M.worth (M.wid f G WW L) plan = wx at hspan HWX
    have HIN := hid (fun W => insideT_c wf wx hspan W)
    clear HN HM hspan hpn htx htf HPN HLF HLX HSP
    go_upto_region 26 with (first | (go_at_call 16; with_reducible refine (Field_c f Ag Aw Ab Ac Al ng cg nw cw nb cb nc cc nl cl (by omega) (by omega) (by omega) (by omega) (by omega) _ (HCS.out.ev (hE5.trans HP5.out))).mono ?_; rintro e x6 ⟨⟨Bg6, dg6, Bw6, dw6, Bb6, db6, Bc6, dc6, Bl6, dl6, rfl, hc⟩, hb⟩; have HP6 := hid (HP5.out.trans hb); have HK6 := hid (HK5.out.trans hb); have HC6 := hid hc; clear hc hb) | (go_at_call 18; with_reducible refine (list_c Lp pn dLp plan (by omega) _ (HSL.out.ev HK6.out)).mono ?_; rintro e x7 ⟨⟨L7, dL7, rfl, ho⟩, hb⟩; have HP7 := hid (HP6.out.trans hb); have HK7 := hid (HK6.out.trans hb); have HO7 := hid (sl_own (enc := ics) (by decide) (ics_len _) (by omega) ho); have HC7 := hid (HC6.out.ev hb); clear ho hb) | (go_at_call 29; with_reducible refine (HWF.out Bg6 Bw6 Bb6 Bc6 Bl6 ng dg6 nw dw6 nb db6 nc dc6 nl dl6 L7 dL7 _ HC7.out HO7.out).mono ?_; rintro e x8 ⟨rfl, hb⟩; have HP8 := hid (HP7.out.trans hb); have HK8 := hid (HK7.out.trans hb); clear hb))
    generalize hWA : World.alloc x8 _ = WA
    have hEA : Ev x8 WA := by rw [← hWA]; exact Ev.alloc (Ev.refl _) _
    have hal := alloc1 x8 (.cells #[.int .i64 wf.lo, .int .i64 wf.hi] 57)
    rw [hWA] at hal
    have HRA := hid hal.1
    have HP9 := hid (HP8.out.trans hEA)
    have HK9 := hid (HK8.out.trans hEA)
    have HA9 := hid (Ev.refl WA)
    clear hal hWA hEA
    clear y0 y1 y2 y3 y4 y5 y6 y7 y8; clear q0 q1 q2 q3 q4 q5 q6 q7 q8; obtain ⟨y0, y1, y2, y3, y4, y5, y6, y7, y8⟩ := cells9 (HP9.out.heap HX5.out); obtain ⟨q0, q1, q2, q3, q4, q5, q6, q7, q8⟩ := cells9 (HP9.out.heap HQ5.out)
    go_upto_region 27 with (first | (go_at_call 16; with_reducible refine (FieldW_c f G WW L VG VW Ab Ac VL ng cG nw cW nb cb nc cc nl cL (by omega) (by omega) (by omega) (by omega) (by omega) _ (HSX.out.ev HP9.out)).mono ?_; rintro e x10 ⟨⟨Bg10, dg10, Bw10, dw10, Bb10, db10, Bc10, dc10, Bl10, dl10, rfl, hc⟩, hb⟩; have HP10 := hid (HP9.out.trans hb); have HK10 := hid (HK9.out.trans hb); have HA10 := hid (HA9.out.trans hb); have HC10 := hid hc; clear hc hb) | (go_at_call 18; with_reducible refine (list_c Lp pn dLp plan (by omega) _ (HSL.out.ev HK10.out)).mono ?_; rintro e x11 ⟨⟨L11, dL11, rfl, ho⟩, hb⟩; have HP11 := hid (HP10.out.trans hb); have HK11 := hid (HK10.out.trans hb); have HA11 := hid (HA10.out.trans hb); have HO11 := hid (sl_own (enc := ics) (by decide) (ics_len _) (by omega) ho); have HC11 := hid (HC10.out.ev hb); clear ho hb) | (go_at_call 29; with_reducible refine (HWX.out Bg10 Bw10 Bb10 Bc10 Bl10 ng dg10 nw dw10 nb db10 nc dc10 nl dl10 L11 dL11 _ HC11.out HO11.out).mono ?_; rintro e x12 ⟨rfl, hb⟩; have HP12 := hid (HP11.out.trans hb); have HK12 := hid (HK11.out.trans hb); have HA12 := hid (HA11.out.trans hb); clear hb))
    generalize hWB : World.alloc x12 _ = WB
    have hEB : Ev x12 WB := by rw [← hWB]; exact Ev.alloc (Ev.refl _) _
    have hal := alloc1 x12 (.cells #[.int .i64 wx.lo, .int .i64 wx.hi] 57)
    rw [hWB] at hal
    have HRB := hid hal.1
    have HP13 := hid (HP12.out.trans hEB)
    have HK13 := hid (HK12.out.trans hEB)
    have HA13 := hid (HA12.out.trans hEB)
    have HB13 := hid (Ev.refl WB)
    have HRA2 := hid (HA13.out.heap HRA.out)
    clear hal hWB hEB
    clear y0 y1 y2 y3 y4 y5 y6 y7 y8; clear q0 q1 q2 q3 q4 q5 q6 q7 q8; obtain ⟨y0, y1, y2, y3, y4, y5, y6, y7, y8⟩ := cells9 (HP13.out.heap HX5.out); obtain ⟨q0, q1, q2, q3, q4, q5, q6, q7, q8⟩ := cells9 (HP13.out.heap HQ5.out)
    go_upto_region 28 with (first | (go_at_call 16; with_reducible refine (Field_c f Ag Aw Ab Ac Al ng cg nw cw nb cb nc cc nl cl (by omega) (by omega) (by omega) (by omega) (by omega) _ (HCS.out.ev (hE5.trans HP13.out))).mono ?_; rintro e x14 ⟨⟨Bg14, dg14, Bw14, dw14, Bb14, db14, Bc14, dc14, Bl14, dl14, rfl, hc⟩, hb⟩; have HP14 := hid (HP13.out.trans hb); have HK14 := hid (HK13.out.trans hb); have HA14 := hid (HA13.out.trans hb); have HB14 := hid (HB13.out.trans hb); have HC14 := hid hc; clear hc hb) | (go_at_call 35; with_reducible refine (HBF.out Bg14 Bw14 Bb14 Bc14 Bl14 ng dg14 nw dw14 nb db14 nc dc14 nl dl14 _ HC14.out).mono ?_; rintro e x15 ⟨⟨BB15, bd15, rfl, _⟩, hb⟩; have HP15 := hid (HP14.out.trans hb); have HK15 := hid (HK14.out.trans hb); have HA15 := hid (HA14.out.trans hb); have HB15 := hid (HB14.out.trans hb); clear hb; clear y0 y1 y2 y3 y4 y5 y6 y7 y8; clear q0 q1 q2 q3 q4 q5 q6 q7 q8; obtain ⟨y0, y1, y2, y3, y4, y5, y6, y7, y8⟩ := cells9 (HP15.out.heap HX5.out); obtain ⟨q0, q1, q2, q3, q4, q5, q6, q7, q8⟩ := cells9 (HP15.out.heap HQ5.out)))
    go_upto_region 29 with (first | (go_at_call 16; with_reducible refine (FieldW_c f G WW L VG VW Ab Ac VL ng cG nw cW nb cb nc cc nl cL (by omega) (by omega) (by omega) (by omega) (by omega) _ (HSX.out.ev HP15.out)).mono ?_; rintro e x16 ⟨⟨Bg16, dg16, Bw16, dw16, Bb16, db16, Bc16, dc16, Bl16, dl16, rfl, hc⟩, hb⟩; have HP16 := hid (HP15.out.trans hb); have HK16 := hid (HK15.out.trans hb); have HA16 := hid (HA15.out.trans hb); have HB16 := hid (HB15.out.trans hb); have HC16 := hid hc; clear hc hb) | (go_at_call 35; with_reducible refine (HBX.out Bg16 Bw16 Bb16 Bc16 Bl16 ng dg16 nw dw16 nb db16 nc dc16 nl dl16 _ HC16.out).mono ?_; rintro e x17 ⟨⟨BB17, bd17, rfl, _⟩, hb⟩; have HP17 := hid (HP16.out.trans hb); have HK17 := hid (HK16.out.trans hb); have HA17 := hid (HA16.out.trans hb); have HB17 := hid (HB16.out.trans hb); clear hb; clear y0 y1 y2 y3 y4 y5 y6 y7 y8; clear q0 q1 q2 q3 q4 q5 q6 q7 q8; obtain ⟨y0, y1, y2, y3, y4, y5, y6, y7, y8⟩ := cells9 (HP17.out.heap HX5.out); obtain ⟨q0, q1, q2, q3, q4, q5, q6, q7, q8⟩ := cells9 (HP17.out.heap HQ5.out)))
    have HRB2 := hid (HB17.out.heap HRB.out)
    have HRA3 := hid (HB17.out.heap HRA2.out)
    clear y0 y1 y2 y3 y4 y5 y6 y7 y8
    clear q0 q1 q2 q3 q4 q5 q6 q7 q8
    obtain ⟨y0, y1⟩ := cells2 HRA3.out
    obtain ⟨q0, q1⟩ := cells2 HRB2.out
    have hge : bx.2 ≤ bf.2 := hbst
    have hge2 : ¬ (bf.2 < bx.2) := by omega
    go_wp2_with (first | (go_at_call 44; with_reducible refine (HIN.out _).mono ?_; rintro e x18 ⟨rfl, hb18⟩) | (go_at_call 14; with_reducible refine (awake_c _).mono ?_; rintro e w99 ⟨rfl, hb99⟩) | (with_reducible refine ⟨trivial, ?_⟩))
    go_ret
    exact ⟨rfl, (((hE5.trans HP17.out)).trans hb18).trans hb99⟩

theorem cropWider_c (f : M.Cf) (Ag Aw Ab Ac Al : Option Addr) (ng cg nw cw nb cb nc cc nl cl : Nat) (hl0 : -9223372036854775808 ≤ f.last) (a b c : Int) (a0 : 0 ≤ a) (a1 : a < 256) (b0 : 0 ≤ b) (b1 : b < 256) (c0 : 0 ≤ c) (c1 : c < 65536) (w : World) (hs : M.small ng nw nb nc nl → CS w w.heap.size f Ag Aw Ab Ac Al ng cg nw cw nb cb nc cc nl cl) :
  Calls Try.prog 9 #[.agg #[.int .i64 f.last, .slice Ag ng cg, .slice Aw nw cw, .slice Ab nb cb, .slice Ac nc cc, .int .i64 f.ripe, .int .i64 f.late, .int .i64 f.trod, .slice Al nl cl], .int .u8 a, .int .u8 b, .int .u16 c] w fun e w' => e = .returned (.bool true) ∧ Ev w w' := by
 cases hr : M.rdy f ng nw nb nc nl with
 | false => exact cropWider_no f Ag Aw Ab Ac Al ng cg nw cw nb cb nc cc nl cl hl0 a b c a0 a1 b0 b1 c0 c1 w hs hr
 | true =>
  obtain ⟨hsm, h0⟩ : M.small ng nw nb nc nl ∧ M.check f = 0 := by
   have h := hr
   unfold M.rdy at h
   rw [Bool.and_eq_true, Bool.and_eq_true, decide_eq_true_eq, decide_eq_true_eq] at h
   exact ⟨h.1.1, h.2⟩
  exact cropWider_yes f Ag Aw Ab Ac Al ng cg nw cw nb cb nc cc nl cl hl0 a b c a0 a1 b0 b1 c0 c1 w (hid (hs hsm)) hr hsm h0

end Go.Proofs.Ytffbkbcjddigdaa
