import Derived.Test.YtgimcephbeajlaaC39
import Derived.Test.YtgimcephbeajlaaC27
import Derived.Test.YtgimcephbeajlaaC23
import Derived.Test.YtgimcephbeajlaaC24
import Derived.Test.YtgimcephbeajlaaC32
import Derived.Test.YtgimcephbeajlaaC34
import Derived.Test.YtgimcephbeajlaaC35
import Derived.Test.YtgimcephbeajlaaC36
import Derived.Test.YtgimcephbeajlaaC29
import Derived.Deep.DeepCutAuto
set_option linter.unusedSimpArgs false
set_option linter.unusedVariables false
namespace Go.Proofs.Ytgimcephbeajlaa
open Go.RowKit Go.Shelf

theorem own_someN {w : World} {base n c size : Nat} {e : TypeId} {V : Option Addr} {xs : List Value} (h : w.ownsRow base e size (.slice V n c) n xs) (hn : 0 < n) : ∃ g, V = some ⟨g, 0, none⟩ ∧ base ≤ g ∧ g < w.heap.size ∧ n ≤ c ∧ (∀ j, w.frozen? ⟨g, j, none⟩ = false) ∧ ∀ (j : Nat) (u : Value), xs[j]? = some u → w.cell? ⟨g, j, none⟩ = some u := by
 rcases h.2 with ⟨hv, h0⟩ | ⟨g, cap, cur, hv, hb, hg, h1, h2, h3, h4⟩
 ·
  omega
 ·
  cases hv
  refine ⟨g, rfl, hb, heap_lt hg, h1, fun j => frozen_in hg j, fun j u hu => ?_⟩
  rw [cell_in hg j]
  rw [← h4, List.getElem?_take] at hu
  split at hu
  ·
   simpa using hu
  ·
   cases hu
theorem own_putN {w : World} {base : Nat} {e : TypeId} {n g cap size : Nat} {xs : List Value} (h : w.ownsRow base e size (.slice (some ⟨g, 0, none⟩) n cap) n xs) (j : Nat) (u : Value) : (w.setCell ⟨g, j, none⟩ u).ownsRow base e size (.slice (some ⟨g, 0, none⟩) n cap) n (xs.set j u) := by
 refine ⟨by rw [List.length_set]; exact h.1, ?_⟩
 rcases h.2 with ⟨hn, _⟩ | ⟨g', cap', cur, hv, hb, hg, h1, h2, h3, h4⟩
 ·
  cases hn
 ·
  cases hv
  refine .inr ⟨g, cap, cur.setIfInBounds j u, rfl, hb, set_heap_same hg, h1, h2, by simp [h3], ?_⟩
  rw [← h4, Array.toList_setIfInBounds, List.take_set]
theorem rgc_at : ∀ (G : List M.Rg) (k : Nat) (r : M.Rg), G[k]? = some r → (G.flatMap rgc)[2 * k]? = some (.int .i64 r.lo) ∧ (G.flatMap rgc)[2 * k + 1]? = some (.int .i64 r.hi)
 | [], k, r, h => by simp at h
 | x :: G, 0, r, h => by simp at h; subst h; simp [rgc]
 | x :: G, k + 1, r, h => by
  have := rgc_at G k r (by simpa using h)
  rw [show 2 * (k + 1) = 2 * k + 1 + 1 by omega]
  simpa [rgc] using this
theorem rgc_set : ∀ (G : List M.Rg) (k : Nat) (r : M.Rg), (((G.flatMap rgc).set (2 * k) (.int .i64 r.lo)).set (2 * k + 1) (.int .i64 r.hi)) = (G.set k r).flatMap rgc ∨ G.length ≤ k
 | [], k, r => .inr (by simp)
 | x :: G, 0, r => .inl (by simp [rgc])
 | x :: G, k + 1, r => by
  rcases rgc_set G k r with h | h
  ·
   left
   rw [show 2 * (k + 1) = 2 * k + 1 + 1 by omega]
   simpa [rgc] using h
  ·
   right
   simp only [List.length_cons]
   omega
theorem wp_append_any {α : Type} {enc : α → List Value} {P : Program} {w : World} {o : Oper} {a : Act} {K : Act → World → Prop} {Q : Exit → Act → World → Prop} (hgd : o.guard = none) (s x : Operand) (t : TypeId)
  (ho : o.op = .call { callee := .builtin .append, args := #[s, x], argTypes := #[t, t] })
  (base : Nat) (e : TypeId) (i : TypeInfo) (z : Value) (size bytes : Nat) (ht : P.underlying t = some (.slice e)) (hi : P.info? e = some i) (hz : i.zero = some z)
  (hsize : i.size = size) (hby : i.bytes = bytes) (hzs : z.cells.size = size) (hsz : 0 < size)
  (v : Value) (n : Nat) (xs : List α) (hs : a.eval s = v) (hown : w.ownsRow base e size v n (xs.flatMap enc))
  (A : Option Addr) (m c : Nat) (ys : List α) (B : Nat) (hx : a.eval x = .slice A m c) (hsl : Sl0 enc size w B A m ys) (henc : ∀ y ∈ ys, (enc y).length = size) (h1 : ∀ u ∈ ys.flatMap enc, u.oneCell' = true)
  (h63 : n + m ≤ maxLen) (hbytes : (n + m) * bytes ≤ 140737488355328) (hbase : base ≤ w.heap.size)
  (h : ∀ v' w', w'.ownsRow base e size v' (n + m) ((xs ++ ys).flatMap enc) → w.grownBy w' v.ownBlock → K (a.put o.dst v') w') : Oper.wp P o a w K Q := by
 have := step_append_any (ops := #[]) (E := True) (Q := Q) hgd s x t ho base e i z size bytes ht hi hz hsize hby hzs hsz v n xs hs hown A m c ys B hx hsl henc h1 h63 hbytes hbase h
 rw [if_pos (by simp [Region.wanted, hgd])] at this
 exact this
theorem infoRG : (Try.prog.info? 23).map (fun i => (i.zero, i.size, i.bytes)) = some (some (.agg #[.int .i64 0, .int .i64 0]), 2, 16) := by kernel_rfl
theorem rdc_one2 (ys : List M.Rd) : ∀ u ∈ ys.flatMap rdc, u.oneCell' = true := by
 intro u hu
 obtain ⟨y, _, hy⟩ := List.mem_flatMap.1 hu
 simp [rdc] at hy
 rcases hy with rfl | rfl | rfl <;> rfl
theorem rdc_at : ∀ (L : List M.Rd) (k : Nat) (r : M.Rd), L[k]? = some r → (L.flatMap rdc)[3 * k + 2]? = some (.int .i64 r.er)
 | [], k, r, h => by simp at h
 | x :: L, 0, r, h => by simp at h; subst h; simp [rdc]
 | x :: L, k + 1, r, h => by
  have := rdc_at L k r (by simpa using h)
  rw [show 3 * (k + 1) + 2 = 3 * k + 2 + 1 + 1 + 1 by omega]
  simpa [rdc] using this
theorem rdc_set : ∀ (L : List M.Rd) (k : Nat) (r : M.Rd) (e : Int), L[k]? = some r → ((L.flatMap rdc).set (3 * k + 2) (.int .i64 e)) = (L.set k ⟨r.hr, r.sn, e⟩).flatMap rdc
 | [], k, r, e, h => by simp at h
 | x :: L, 0, r, e, h => by simp at h; subst h; simp [rdc]
 | x :: L, k + 1, r, e, h => by
  have := rdc_set L k r e (by simpa using h)
  rw [show 3 * (k + 1) + 2 = 3 * k + 2 + 1 + 1 + 1 by omega]
  simpa [rdc] using this
theorem own_setR {w : World} {base e1 e2 s1 s2 n1 n2 g1 c1 : Nat} {v2 : Value} {x1 x2 : List Value} {j : Nat} {u : Value} (h1 : w.ownsRow base e1 s1 (.slice (some ⟨g1, 0, none⟩) n1 c1) n1 x1) (h2 : w.ownsRow base e2 s2 v2 n2 x2) (hne : e1 ≠ e2) : (w.setCell ⟨g1, j, none⟩ u).ownsRow base e2 s2 v2 n2 x2 := by
 rcases h1.2 with ⟨hv, _⟩ | ⟨g', cap', cur, hv, hb, hg, _⟩
 ·
  cases hv
 ·
  cases hv
  exact own_set h2 hg hne
theorem own_wideR {w : World} {base gx ng cG kx : Nat} {G : List M.Rg} {r : M.Rg} {v1 v2 : Int} (h : w.ownsRow base 23 2 (.slice (some ⟨gx, 0, none⟩) ng cG) ng (G.flatMap rgc)) (hk : kx < G.length) (e1 : v1 = r.lo) (e2 : v2 = r.hi) : ((w.setCell ⟨gx, kx * 2, none⟩ (.int .i64 v1)).setCell ⟨gx, kx * 2 + 1, none⟩ (.int .i64 v2)).ownsRow base 23 2 (.slice (some ⟨gx, 0, none⟩) ng cG) ng ((G.set kx r).flatMap rgc) := by
 subst e1
 subst e2
 have := own_putN (own_putN h (kx * 2) (.int .i64 r.lo)) (kx * 2 + 1) (.int .i64 r.hi)
 rcases rgc_set G kx r with h2 | h2
 ·
  rw [Nat.mul_comm kx 2] at this ⊢
  rw [← h2]
  exact this
 ·
  omega
theorem own_wideE {w : World} {base gx nl cL kx : Nat} {L : List M.Rd} {r : M.Rd} {e v1 : Int} (h : w.ownsRow base 96 3 (.slice (some ⟨gx, 0, none⟩) nl cL) nl (L.flatMap rdc)) (hk : L[kx]? = some r) (e1 : v1 = e) : (w.setCell ⟨gx, kx * 3 + 2, none⟩ (.int .i64 v1)).ownsRow base 96 3 (.slice (some ⟨gx, 0, none⟩) nl cL) nl ((L.set kx ⟨r.hr, r.sn, e⟩).flatMap rdc) := by
 subst e1
 have := own_putN h (kx * 3 + 2) (.int .i64 v1)
 rw [Nat.mul_comm kx 3] at this ⊢
 rw [rdc_set L kx r v1 hk] at this
 exact this

set_option maxRecDepth 100000 in
set_option maxHeartbeats 2000000 in
theorem couchWider_no (f : M.Cf) (Aw At Ar : Option Addr) (nw cw nt ct nr cr : Nat) (hl0 : -9223372036854775808 ≤ f.last) (a b : Int) (a0 : 0 ≤ a) (a1 : a < 256) (b0 : 0 ≤ b) (b1 : b < 256) (c : Nat) (hc : c < 65536) (w : World) (hs : M.small nw nt nr → CS w w.heap.size f Aw At Ar nw cw nt ct nr cr) (hno : M.rdy f nw nt nr = false) :
  Calls Try.prog 14 #[.agg #[.int .i64 f.last, .int .i64 f.size, .int .i64 f.cool, .int .i64 f.die, .int .i64 f.burn, .int .i64 f.st.lo, .int .i64 f.st.hi, .slice Aw nw cw, .slice At nt ct, .slice Ar nr cr], .int .u8 a, .int .u8 b, .int .u16 (c : Int)] w fun e w' => e = .returned (.bool true) ∧ Ev w w' := by
 have HRD := hid (fun W (hE : Ev w W) => by have := ready_c f Aw At Ar nw cw nt ct nr cr hl0 W (fun h => (hs h).ev hE); rw [hno] at this; exact this)
 clear hs hno
 go_enter Try.func14, Try.ntmps14
 go_wp2_with (first | (go_at_call 50; with_reducible refine (HRD.out _ (Ev.alloc (Ev.refl _) _)).mono ?_; rintro e w1 ⟨rfl, hb1⟩; have hG : Ev w w1 := (Ev.alloc (Ev.refl _) _).trans hb1; have Q0 := hid (hb1.heap (alloc1 w (.cells #[.int .i64 f.last, .int .i64 f.size, .int .i64 f.cool, .int .i64 f.die, .int .i64 f.burn, .int .i64 f.st.lo, .int .i64 f.st.hi, .slice Aw nw cw, .slice At nt ct, .slice Ar nr cr] 28)).1); obtain ⟨y0, y1, y2, y3, y4, y5, y6, y7, y8, y9⟩ := cells10 Q0.out) | (go_at_call 19; with_reducible refine (awake_c _).mono ?_; rintro e w99 ⟨rfl, hb99⟩) | (with_reducible refine ⟨trivial, ?_⟩))
 go_ret
 exact ⟨rfl, hG.trans hb99⟩

theorem narrower_t (X Y : Option Addr) (n c m d : Nat) (xs ys : List M.Rg) (h : M.narrow xs ys = true) (w : World) (hx : Sl rgc 2 w w.heap.size X n c xs) (hy : Sl rgc 2 w w.heap.size Y m d ys) :
  Calls Try.prog 59 #[.slice X n c, .slice Y m d] w fun e w' => e = .returned (.bool true) ∧ Ev w w' := by
 have := narrower_c X Y n c m d xs ys w hx hy
 rw [h] at this
 exact this
theorem readyW_c (f : M.Cf) (G : M.Rg) (WW : List M.Rg) (L : List M.Rd) (Aw At Ar : Option Addr) (nw cw nt ct nr cr : Nat) (hl0 : -9223372036854775808 ≤ f.last) (w : World) (hs : M.small nw nt nr → CS w w.heap.size (M.wid f G WW L) Aw At Ar nw cw nt ct nr cr) :
  Calls Try.prog 50 #[.agg #[.int .i64 f.last, .int .i64 f.size, .int .i64 f.cool, .int .i64 f.die, .int .i64 f.burn, .int .i64 G.lo, .int .i64 G.hi, .slice Aw nw cw, .slice At nt ct, .slice Ar nr cr]] w fun e w' => e = .returned (.bool (M.rdy (M.wid f G WW L) nw nt nr)) ∧ Ev w w' := ready_c (M.wid f G WW L) Aw At Ar nw cw nt ct nr cr hl0 w hs
theorem HeapW_c (f : M.Cf) (G : M.Rg) (WW : List M.Rg) (L : List M.Rd) (Aw At Ar : Option Addr) (nw cw nt ct nr cr : Nat) (hnw : nw ≤ 1000) (hnt : nt ≤ 1000) (hnr : nr ≤ 1000) (w : World) (hs : CS w w.heap.size (M.wid f G WW L) Aw At Ar nw cw nt ct nr cr) :
  Calls Try.prog 21 #[.agg #[.int .i64 f.last, .int .i64 f.size, .int .i64 f.cool, .int .i64 f.die, .int .i64 f.burn, .int .i64 G.lo, .int .i64 G.hi, .slice Aw nw cw, .slice At nt ct, .slice Ar nr cr]] w fun e w' => (∃ Bw dw Bt dt Br dr, e = .returned (.agg #[.int .i64 f.last, .int .i64 f.size, .int .i64 f.cool, .int .i64 f.die, .int .i64 f.burn, .int .i64 G.lo, .int .i64 G.hi, .slice Bw nw dw, .slice Bt nt dt, .slice Br nr dr]) ∧ CS w' w'.heap.size (M.wid f G WW L) Bw Bt Br nw dw nt dt nr dr) ∧ Ev w w' := Heap_c (M.wid f G WW L) Aw At Ar nw cw nt ct nr cr hnw hnt hnr w hs
theorem LeaveW_ok (f : M.Cf) (G : M.Rg) (WW : List M.Rg) (L : List M.Rd) (Aw At Ar : Option Addr) (nw cw nt ct nr cr : Nat) (hl0 : -9223372036854775808 ≤ f.last) (w : World) (hs : CS w w.heap.size (M.wid f G WW L) Aw At Ar nw cw nt ct nr cr) (h0 : M.check (M.wid f G WW L) = 0) :
  Calls Try.prog 41 #[.agg #[.int .i64 f.last, .int .i64 f.size, .int .i64 f.cool, .int .i64 f.die, .int .i64 f.burn, .int .i64 G.lo, .int .i64 G.hi, .slice Aw nw cw, .slice At nt ct, .slice Ar nr cr]] w fun e w' => (∃ B d, e = .returned (.tuple #[.slice B (M.shortest (M.spares (M.wid f G WW L)) nr).length d, .int .i64 0])) ∧ Ev w w' := (Leave_ok (M.wid f G WW L) Aw At Ar nw cw nt ct nr cr hl0 w hs h0).mono fun e w' h => ⟨by obtain ⟨⟨B, d, h1, _⟩, _⟩ := h; exact ⟨B, d, h1⟩, h.2⟩
theorem BoundsW_ok (f : M.Cf) (G : M.Rg) (WW : List M.Rg) (L : List M.Rd) (Aw At Ar : Option Addr) (nw cw nt ct nr cr : Nat) (P : Option Addr) (pn pc : Nat) (plan : List Int) (hl0 : -9223372036854775808 ≤ f.last) (w : World) (hs : CS w w.heap.size (M.wid f G WW L) Aw At Ar nw cw nt ct nr cr) (hp : Sl ics 1 w w.heap.size P pn pc plan) (h0 : M.begin (M.wid f G WW L) (M.isTurns (M.wid f G WW L) plan) = 0) :
  Calls Try.prog 31 #[.agg #[.int .i64 f.last, .int .i64 f.size, .int .i64 f.cool, .int .i64 f.die, .int .i64 f.burn, .int .i64 G.lo, .int .i64 G.hi, .slice Aw nw cw, .slice At nt ct, .slice Ar nr cr], .slice P pn pc] w fun e w' => (∃ B d, e = .returned (.tuple #[.slice B nw d, .int .i64 0]) ∧ Sl rgc 2 w' w'.heap.size B nw d (M.bounds (M.wid f G WW L) (M.truths (M.wid f G WW L)) plan)) ∧ Ev w w' := Bounds_ok (M.wid f G WW L) Aw At Ar nw cw nt ct nr cr P pn pc plan hl0 w hs hp h0
theorem neededW_c (f : M.Cf) (G : M.Rg) (WW : List M.Rg) (L : List M.Rd) (Aw At Ar : Option Addr) (nw cw nt ct nr cr : Nat) (hl0 : -9223372036854775808 ≤ f.last) (hnt : nt ≤ 1000) (hnr : nr ≤ 1000) (h0 : M.begin (M.wid f G WW L) true = 0) (w : World) (hs : CS w w.heap.size (M.wid f G WW L) Aw At Ar nw cw nt ct nr cr) :
  Calls Try.prog 58 #[.agg #[.int .i64 f.last, .int .i64 f.size, .int .i64 f.cool, .int .i64 f.die, .int .i64 f.burn, .int .i64 G.lo, .int .i64 G.hi, .slice Aw nw cw, .slice At nt ct, .slice Ar nr cr]] w fun e w' => e = .returned (.int .i64 (M.need (M.wid f G WW L) (M.truths (M.wid f G WW L)))) ∧ Ev w w' := needed_c (M.wid f G WW L) Aw At Ar nw cw nt ct nr cr hl0 hnt hnr h0 w hs
theorem LeaveM0_ok (f : M.Cf) (Aw At Ar : Option Addr) (nw cw nt ct nr cr : Nat) (hl0 : -9223372036854775808 ≤ f.last) (w : World) (hs : CS w w.heap.size f Aw At Ar nw cw nt ct nr cr) (h0 : M.check f = 0) :
  Calls Try.prog 41 #[.agg #[.int .i64 f.last, .int .i64 f.size, .int .i64 f.cool, .int .i64 f.die, .int .i64 f.burn, .int .i64 f.st.lo, .int .i64 f.st.hi, .slice Aw nw cw, .slice At nt ct, .slice Ar nr cr]] w fun e w' => (∃ B d, e = .returned (.tuple #[.slice B (M.shortest (M.spares f) nr).length d, .int .i64 0])) ∧ Ev w w' := (Leave_ok f Aw At Ar nw cw nt ct nr cr hl0 w hs h0).mono fun e w' h => ⟨by obtain ⟨⟨B, d, h1, _⟩, _⟩ := h; exact ⟨B, d, h1⟩, h.2⟩
theorem Bounds0_ok (f : M.Cf) (Aw At Ar : Option Addr) (nw cw nt ct nr cr : Nat) (P : Option Addr) (pn pc : Nat) (plan : List Int) (hl0 : -9223372036854775808 ≤ f.last) (w : World) (hs : CS w w.heap.size f Aw At Ar nw cw nt ct nr cr) (hp : Sl ics 1 w w.heap.size P pn pc plan) (h0 : M.begin f (M.isTurns f plan) = 0) :
  Calls Try.prog 31 #[.agg #[.int .i64 f.last, .int .i64 f.size, .int .i64 f.cool, .int .i64 f.die, .int .i64 f.burn, .int .i64 f.st.lo, .int .i64 f.st.hi, .slice Aw nw cw, .slice At nt ct, .slice Ar nr cr], .slice P pn pc] w fun e w' => (∃ B d, e = .returned (.tuple #[.slice B nw d, .int .i64 0]) ∧ Sl rgc 2 w' w'.heap.size B nw d (M.bounds f (M.truths f) plan)) ∧ Ev w w' := Bounds_ok f Aw At Ar nw cw nt ct nr cr P pn pc plan hl0 w hs hp h0

set_option maxRecDepth 1000000 in
set_option maxHeartbeats 16000000 in
theorem couchWider_yes (f : M.Cf) (Aw At Ar : Option Addr) (nw cw nt ct nr cr : Nat) (hl0 : -9223372036854775808 ≤ f.last) (a b : Int) (a0 : 0 ≤ a) (a1 : a < 256) (b0 : 0 ≤ b) (b1 : b < 256) (c : Nat) (hc : c < 65536) (w : World) (HCS : Hid (CS w w.heap.size f Aw At Ar nw cw nt ct nr cr)) (hr : M.rdy f nw nt nr = true) (hsm : M.small nw nt nr) (h0 : M.check f = 0) :
  Calls Try.prog 14 #[.agg #[.int .i64 f.last, .int .i64 f.size, .int .i64 f.cool, .int .i64 f.die, .int .i64 f.burn, .int .i64 f.st.lo, .int .i64 f.st.hi, .slice Aw nw cw, .slice At nt ct, .slice Ar nr cr], .int .u8 a, .int .u8 b, .int .u16 (c : Int)] w fun e w' => e = .returned (.bool true) ∧ Ev w w' := by
 obtain ⟨j0, hj0, hj1, hj2, hj3⟩ := info_parts infoRG
 obtain ⟨k0, hk0, hk1, hk2, hk3⟩ := info_parts infoRR
 obtain ⟨s0, s1, s2⟩ := hsm
 have HRD := hid (fun W (hE : Ev w W) => by have := ready_c f Aw At Ar nw cw nt ct nr cr hl0 W (fun _ => HCS.out.ev hE); rw [hr] at this; exact this)
 obtain ⟨hl9, _, hv, _⟩ := M.check0 h0
 have hlast := (M.valid_parts hv).2.2.2.2.2.1
 have hwl := HCS.out.w_.len
 have HLR := hid (show Sl0 rgc 2 w w.heap.size Aw nw f.wet from ⟨HCS.out.w_.len, HCS.out.w_.cells⟩)
 have HLK := hid (show Sl0 rdc 3 w w.heap.size Ar nr f.rds from ⟨HCS.out.r.len, HCS.out.r.cells⟩)
 clear hr
 go_enter Try.func14, Try.ntmps14
 go_upto_region 3 with (first | (go_at_call 50; with_reducible refine (HRD.out _ (Ev.alloc (Ev.refl _) _)).mono ?_; rintro e w1 ⟨rfl, hb1⟩; have hG : Ev w w1 := (Ev.alloc (Ev.refl _) _).trans hb1; have Q0 := hid (hb1.heap (alloc1 w (.cells #[.int .i64 f.last, .int .i64 f.size, .int .i64 f.cool, .int .i64 f.die, .int .i64 f.burn, .int .i64 f.st.lo, .int .i64 f.st.hi, .slice Aw nw cw, .slice At nt ct, .slice Ar nr cr] 28)).1); obtain ⟨y0, y1, y2, y3, y4, y5, y6, y7, y8, y9⟩ := cells10 Q0.out) | (with_reducible refine ⟨trivial, ?_⟩))
 go_upto_region 4 with fail
 generalize hW2 : World.alloc w1 _ = W2
 have hE2 : Ev w1 W2 := by rw [← hW2]; exact Ev.alloc (Ev.refl _) _
 have hal := alloc1 w1 (.cells #[.int .i64 f.last, .int .i64 f.size, .int .i64 f.cool, .int .i64 f.die, .int .i64 f.burn, .int .i64 f.st.lo, .int .i64 f.st.hi, .slice Aw nw cw, .slice At nt ct, .slice Ar nr cr] 28)
 rw [hW2] at hal
 have HC2 := hid hal.1
 have hs2 := hal.2
 have Q0c := hid (hE2.heap Q0.out)
 have HEW := hid (hG.trans hE2)
 have hlp : w.heap.size < w1.heap.size := heap_lt Q0.out
 have hnp : w.heap.size ≠ w1.heap.size := by omega
 have hp2 : w1.heap.size < W2.heap.size := by omega
 clear hal hW2 hE2 Q0 y0 y1 y2 y3 y4 y5 y6 y7 y8 y9 hG hs2
 generalize w1.heap.size = p at HC2 hlp hnp hp2 ⊢
 obtain ⟨y0, y1, y2, y3, y4, y5, y6, y7, y8, y9⟩ := cells10 Q0c.out
 have lbx := heap_lt Q0c.out
 have HSE : Hid (∀ w', Ev W2 w' → (∀ o, w'.cell? ⟨w.heap.size, o, none⟩ = W2.cell? ⟨w.heap.size, o, none⟩)) := hid (fun w' h => fun o => h.cells.1 _ o lbx)
 go_cut [] (fun W => ∃ (VW : Option Addr) (cW : Nat) (VL : Option Addr) (cL : Nat), Ev w W ∧ Hid (W.heap[w.heap.size]? = some (.cells #[.int .i64 f.last, .int .i64 f.size, .int .i64 f.cool, .int .i64 f.die, .int .i64 f.burn, .int .i64 f.st.lo, .int .i64 f.st.hi, .slice Aw nw cw, .slice At nt ct, .slice Ar nr cr] 28 (0, 0))) ∧ Hid (W.heap[p]? = some (.cells #[.int .i64 f.last, .int .i64 f.size, .int .i64 f.cool, .int .i64 f.die, .int .i64 f.burn, .int .i64 f.st.lo, .int .i64 f.st.hi, .slice VW nw cW, .slice At nt ct, .slice VL nr cL] 28 (0, 0))) ∧ Hid (W.ownsRow W2.heap.size 23 2 (.slice VW nw cW) nw (f.wet.flatMap rgc)) ∧ Hid (W.ownsRow W2.heap.size 96 3 (.slice VL nr cL) nr (f.rds.flatMap rdc)))
 case first =>
  refine wp_region_held_drew (S := fun w' => (∀ o, w'.cell? ⟨w.heap.size, o, none⟩ = W2.cell? ⟨w.heap.size, o, none⟩)) (by kernel_rfl) (fun o => rfl) (fun hHeld => ?_)
  refine tkH 1 (some 32) ?_
  (try simp only [Act.put, sA, sB, sC])
  refine tkH 2 (some 33) ?_
  (try simp only [Act.put, sA, sB, sC])
  refine tkH 5 (some 36) ?_
  (try simp only [Act.put, sA, sB, sC])
  refine tkH 6 (some 37) ?_
  (try simp only [Act.put, sA, sB, sC])
  refine wpAnyH_ready (rs := [0, 4]) (by kernel_rfl) (by simp) ?_
  refine AllReadyH.cons rfl (fun K hK => ?_) (AllReadyH.cons rfl (fun K hK => ?_) (AllReadyH.nil))
  ·
   go_simp
   generalize hW0 : World.drew (World.alloc W2 _) = A0
   have hb0 : Ev W2 A0 := by rw [← hW0]; exact Ev.drew (Ev.alloc (Ev.refl _) _)
   have hx0 : Ev W2 A0 := hb0
   have hr0 := hid (show A0.ownsRow W2.heap.size 23 2 (.slice (some ⟨W2.heap.size, 0, none⟩) 0 0) 0 [] from by rw [← hW0]; exact (World.ownsRow_lit W2 #[] 0 (Nat.le_refl _) (by decide) rfl).ev (Ev.drew (Ev.refl _)))
   clear hW0
   refine hK.out _ _ (HSE.out _ hx0) (fun hHeld => ?_)
   clear hK K
   (try simp only [Act.put, sA, sB, sC])
   refine wpAnyH_ready (rs := [3, 4]) (by kernel_rfl) (by simp) ?_
   refine AllReadyH.cons rfl (fun K hK => ?_) (AllReadyH.cons rfl (fun K hK => ?_) (AllReadyH.nil))
   ·
    first | refine step_append_any (enc := rgc) rfl (.tmp 31) (.tmp 33) 24 rfl W2.heap.size 23 j0 _ 2 16 Try.underlying24 hj0 hj1 hj2 hj3 rfl (by decide) _ 0 [] rfl hr0.out Aw nw cw f.wet _ rfl (HLR.out.ev (HEW.out.trans hx0)) (rgc_len _) (rgc_one _) (by unfold maxLen; omega) (by omega) (hx0.size) ?_ | refine wp_append_any (enc := rgc) rfl (.tmp 31) (.tmp 33) 24 rfl W2.heap.size 23 j0 _ 2 16 Try.underlying24 hj0 hj1 hj2 hj3 rfl (by decide) _ 0 [] rfl hr0.out Aw nw cw f.wet _ rfl (HLR.out.ev (HEW.out.trans hx0)) (rgc_len _) (rgc_one _) (by unfold maxLen; omega) (by omega) (hx0.size) ?_
    intro v' B3 hown' hgrow
    have hown2 : B3.ownsRow W2.heap.size 23 2 v' nw (f.wet.flatMap rgc) := by simpa using hown'
    obtain ⟨V3, cx3, rfl⟩ := own_form hown2
    have hr3 := hid hown2
    have hx3 : Ev W2 B3 := Ev.grown hx0 hgrow (fun k e => (hr0.out.lt k e).1)
    clear hown' hgrow hown2
    refine hK.out _ _ (HSE.out _ hx3) (fun hHeld => ?_)
    clear hK K
    (try simp only [Act.put, sA, sB, sC])
    refine tkH 8 (some 39) ?_
    (try simp only [Act.put, sA, sB, sC])
    refine wpAnyH_one (i := 4) rfl (by kernel_rfl) (by rfl) (fun K hK => ?_)
    go_simp
    generalize hW4 : World.alloc B3 _ = A4
    have hb4 : Ev B3 A4 := by rw [← hW4]; exact Ev.alloc (Ev.refl _) _
    have hx4 : Ev W2 A4 := hx3.trans hb4
    have hr4 := hid (show A4.ownsRow W2.heap.size 96 3 (.slice (some ⟨B3.heap.size, 0, none⟩) 0 0) 0 [] from by rw [← hW4]; exact World.ownsRow_lit B3 #[] 0 (hx3.size) (by decide) rfl)
    have hr3' := hid (hr3.out.ev hb4)
    clear hW4
    refine hK.out _ _ (HSE.out _ hx4) (fun hHeld => ?_)
    clear hK K
    (try simp only [Act.put, sA, sB, sC])
    refine wpAnyH_ready (rs := [7]) (by kernel_rfl) (by simp) ?_
    refine AllReadyH.cons rfl (fun K hK => ?_) AllReadyH.nil
    first | refine step_append_any (enc := rdc) rfl (.tmp 35) (.tmp 37) 26 rfl W2.heap.size 96 k0 _ 3 24 Try.underlying26 hk0 hk1 hk2 hk3 rfl (by decide) _ 0 [] rfl hr4.out Ar nr cr f.rds _ rfl (HLK.out.ev (HEW.out.trans hx4)) (rdc_len _) (rdc_one2 _) (by unfold maxLen; omega) (by omega) (hx4.size) ?_ | refine wp_append_any (enc := rdc) rfl (.tmp 35) (.tmp 37) 26 rfl W2.heap.size 96 k0 _ 3 24 Try.underlying26 hk0 hk1 hk2 hk3 rfl (by decide) _ 0 [] rfl hr4.out Ar nr cr f.rds _ rfl (HLK.out.ev (HEW.out.trans hx4)) (rdc_len _) (rdc_one2 _) (by unfold maxLen; omega) (by omega) (hx4.size) ?_
    intro v' B7 hown' hgrow
    have hown2 : B7.ownsRow W2.heap.size 96 3 v' nr (f.rds.flatMap rdc) := by simpa using hown'
    obtain ⟨V7, cx7, rfl⟩ := own_form hown2
    have hr7 := hid hown2
    have hx7 : Ev W2 B7 := Ev.grown hx4 hgrow (fun k e => (hr4.out.lt k e).1)
    have hr3'' := hid (hr3'.out.kept hgrow (own_ne hr4.out hr3'.out (by decide)))
    clear hown' hgrow hown2
    refine hK.out _ _ (HSE.out _ hx7) (fun hHeld => ?_)
    clear hK K
    (try simp only [Act.put, sA, sB, sC])
    refine wpAnyH_one (i := 9) rfl (by kernel_rfl) (by rfl) (fun K hK => ?_)
    have hxp := hid (hx7.heap HC2.out)
    obtain ⟨y0, y1, y2, y3, y4, y5, y6, y7, y8, y9⟩ := cells10 hxp.out
    obtain ⟨f0, f1, f2, f3, f4, f5, f6, f7, f8, f9⟩ := frz10 hxp.out
    go_simp
    generalize hX9 : World.setCell B7 _ _ = X9
    have HX9 := hid (show X9.heap[p]? = some (.cells #[.int .i64 f.last, .int .i64 f.size, .int .i64 f.cool, .int .i64 f.die, .int .i64 f.burn, .int .i64 f.st.lo, .int .i64 f.st.hi, .slice V3 nw cx3, .slice At nt ct, .slice Ar nr cr] 28 (0, 0)) from by rw [← hX9, set_heap_same hxp.out]; rfl)
    have HQ9 := hid (show X9.heap[w.heap.size]? = some (.cells #[.int .i64 f.last, .int .i64 f.size, .int .i64 f.cool, .int .i64 f.die, .int .i64 f.burn, .int .i64 f.st.lo, .int .i64 f.st.hi, .slice Aw nw cw, .slice At nt ct, .slice Ar nr cr] 28 (0, 0)) from by rw [← hX9]; exact set_heap (hx7.heap Q0c.out) hnp)
    have HY9 := hid (show Ev w X9 from by rw [← hX9]; exact Ev.setCell (p := ⟨p, 7, none⟩) (HEW.out.trans hx7) (show w.heap.size ≤ p by omega) _)
    have HS9 := hid (show ∀ o, X9.cell? ⟨w.heap.size, o, none⟩ = W2.cell? ⟨w.heap.size, o, none⟩ from fun o => by rw [← hX9]; exact (cell_set_ne hnp).trans (HSE.out _ hx7 o))
    have hr3''' := hid (show X9.ownsRow _ _ _ _ _ _ from by rw [← hX9]; exact own_set hr3''.out hxp.out (by decide))
    have hr7' := hid (show X9.ownsRow _ _ _ _ _ _ from by rw [← hX9]; exact own_set hr7.out hxp.out (by decide))
    clear hX9 hxp y0 y1 y2 y3 y4 y5 y6 y7 y8 y9 f0 f1 f2 f3 f4 f5 f6 f7 f8 f9
    refine hK.out _ _ (HS9.out) (fun hHeld => ?_)
    clear hK K
    (try simp only [Act.put, sA, sB, sC])
    refine tkH 10 (some 40) ?_
    (try simp only [Act.put, sA, sB, sC])
    refine wpAnyH_one (i := 11) rfl (by kernel_rfl) (by rfl) (fun K hK => ?_)
    have hxp := hid HX9.out
    obtain ⟨y0, y1, y2, y3, y4, y5, y6, y7, y8, y9⟩ := cells10 hxp.out
    obtain ⟨f0, f1, f2, f3, f4, f5, f6, f7, f8, f9⟩ := frz10 hxp.out
    go_simp
    generalize hX11 : World.setCell X9 _ _ = X11
    have HX11 := hid (show X11.heap[p]? = some (.cells #[.int .i64 f.last, .int .i64 f.size, .int .i64 f.cool, .int .i64 f.die, .int .i64 f.burn, .int .i64 f.st.lo, .int .i64 f.st.hi, .slice V3 nw cx3, .slice At nt ct, .slice V7 nr cx7] 28 (0, 0)) from by rw [← hX11, set_heap_same hxp.out]; rfl)
    have HQ11 := hid (show X11.heap[w.heap.size]? = some (.cells #[.int .i64 f.last, .int .i64 f.size, .int .i64 f.cool, .int .i64 f.die, .int .i64 f.burn, .int .i64 f.st.lo, .int .i64 f.st.hi, .slice Aw nw cw, .slice At nt ct, .slice Ar nr cr] 28 (0, 0)) from by rw [← hX11]; exact set_heap HQ9.out hnp)
    have HY11 := hid (show Ev w X11 from by rw [← hX11]; exact Ev.setCell (p := ⟨p, 9, none⟩) HY9.out (show w.heap.size ≤ p by omega) _)
    have HS11 := hid (show ∀ o, X11.cell? ⟨w.heap.size, o, none⟩ = W2.cell? ⟨w.heap.size, o, none⟩ from fun o => by rw [← hX11]; exact (cell_set_ne hnp).trans (HS9.out o))
    have hr3'''' := hid (show X11.ownsRow _ _ _ _ _ _ from by rw [← hX11]; exact own_set hr3'''.out hxp.out (by decide))
    have hr7'' := hid (show X11.ownsRow _ _ _ _ _ _ from by rw [← hX11]; exact own_set hr7'.out hxp.out (by decide))
    clear hX11 hxp y0 y1 y2 y3 y4 y5 y6 y7 y8 y9 f0 f1 f2 f3 f4 f5 f6 f7 f8 f9
    refine hK.out _ _ (HS11.out) (fun hHeld => ?_)
    clear hK K
    (try simp only [Act.put, sA, sB, sC])
    refine wpAnyH_done (by kernel_rfl) ?_ _
    go_wp2_with fail
    go_meet
    exact ⟨V3, cx3, V7, cx7, HY11.out, HQ11, HX11, hr3'''', hr7''⟩
   ·
    go_simp
    generalize hW4 : World.alloc A0 _ = A4
    have hb4 : Ev A0 A4 := by rw [← hW4]; exact Ev.alloc (Ev.refl _) _
    have hx4 : Ev W2 A4 := hx0.trans hb4
    have hr4 := hid (show A4.ownsRow W2.heap.size 96 3 (.slice (some ⟨A0.heap.size, 0, none⟩) 0 0) 0 [] from by rw [← hW4]; exact World.ownsRow_lit A0 #[] 0 (hx0.size) (by decide) rfl)
    have hr0' := hid (hr0.out.ev hb4)
    clear hW4
    refine hK.out _ _ (HSE.out _ hx4) (fun hHeld => ?_)
    clear hK K
    (try simp only [Act.put, sA, sB, sC])
    refine wpAnyH_ready (rs := [3]) (by kernel_rfl) (by simp) ?_
    refine AllReadyH.cons rfl (fun K hK => ?_) AllReadyH.nil
    first | refine step_append_any (enc := rgc) rfl (.tmp 31) (.tmp 33) 24 rfl W2.heap.size 23 j0 _ 2 16 Try.underlying24 hj0 hj1 hj2 hj3 rfl (by decide) _ 0 [] rfl hr0'.out Aw nw cw f.wet _ rfl (HLR.out.ev (HEW.out.trans hx4)) (rgc_len _) (rgc_one _) (by unfold maxLen; omega) (by omega) (hx4.size) ?_ | refine wp_append_any (enc := rgc) rfl (.tmp 31) (.tmp 33) 24 rfl W2.heap.size 23 j0 _ 2 16 Try.underlying24 hj0 hj1 hj2 hj3 rfl (by decide) _ 0 [] rfl hr0'.out Aw nw cw f.wet _ rfl (HLR.out.ev (HEW.out.trans hx4)) (rgc_len _) (rgc_one _) (by unfold maxLen; omega) (by omega) (hx4.size) ?_
    intro v' B3 hown' hgrow
    have hown2 : B3.ownsRow W2.heap.size 23 2 v' nw (f.wet.flatMap rgc) := by simpa using hown'
    obtain ⟨V3, cx3, rfl⟩ := own_form hown2
    have hr3 := hid hown2
    have hx3 : Ev W2 B3 := Ev.grown hx4 hgrow (fun k e => (hr0'.out.lt k e).1)
    have hr4' := hid (hr4.out.kept hgrow (own_ne hr0'.out hr4.out (by decide)))
    clear hown' hgrow hown2
    refine hK.out _ _ (HSE.out _ hx3) (fun hHeld => ?_)
    clear hK K
    (try simp only [Act.put, sA, sB, sC])
    refine tkH 8 (some 39) ?_
    (try simp only [Act.put, sA, sB, sC])
    refine wpAnyH_ready (rs := [7]) (by kernel_rfl) (by simp) ?_
    refine AllReadyH.cons rfl (fun K hK => ?_) AllReadyH.nil
    first | refine step_append_any (enc := rdc) rfl (.tmp 35) (.tmp 37) 26 rfl W2.heap.size 96 k0 _ 3 24 Try.underlying26 hk0 hk1 hk2 hk3 rfl (by decide) _ 0 [] rfl hr4'.out Ar nr cr f.rds _ rfl (HLK.out.ev (HEW.out.trans hx3)) (rdc_len _) (rdc_one2 _) (by unfold maxLen; omega) (by omega) (hx3.size) ?_ | refine wp_append_any (enc := rdc) rfl (.tmp 35) (.tmp 37) 26 rfl W2.heap.size 96 k0 _ 3 24 Try.underlying26 hk0 hk1 hk2 hk3 rfl (by decide) _ 0 [] rfl hr4'.out Ar nr cr f.rds _ rfl (HLK.out.ev (HEW.out.trans hx3)) (rdc_len _) (rdc_one2 _) (by unfold maxLen; omega) (by omega) (hx3.size) ?_
    intro v' B7 hown' hgrow
    have hown2 : B7.ownsRow W2.heap.size 96 3 v' nr (f.rds.flatMap rdc) := by simpa using hown'
    obtain ⟨V7, cx7, rfl⟩ := own_form hown2
    have hr7 := hid hown2
    have hx7 : Ev W2 B7 := Ev.grown hx3 hgrow (fun k e => (hr4'.out.lt k e).1)
    have hr3' := hid (hr3.out.kept hgrow (own_ne hr4'.out hr3.out (by decide)))
    clear hown' hgrow hown2
    refine hK.out _ _ (HSE.out _ hx7) (fun hHeld => ?_)
    clear hK K
    (try simp only [Act.put, sA, sB, sC])
    refine wpAnyH_one (i := 9) rfl (by kernel_rfl) (by rfl) (fun K hK => ?_)
    have hxp := hid (hx7.heap HC2.out)
    obtain ⟨y0, y1, y2, y3, y4, y5, y6, y7, y8, y9⟩ := cells10 hxp.out
    obtain ⟨f0, f1, f2, f3, f4, f5, f6, f7, f8, f9⟩ := frz10 hxp.out
    go_simp
    generalize hX9 : World.setCell B7 _ _ = X9
    have HX9 := hid (show X9.heap[p]? = some (.cells #[.int .i64 f.last, .int .i64 f.size, .int .i64 f.cool, .int .i64 f.die, .int .i64 f.burn, .int .i64 f.st.lo, .int .i64 f.st.hi, .slice V3 nw cx3, .slice At nt ct, .slice Ar nr cr] 28 (0, 0)) from by rw [← hX9, set_heap_same hxp.out]; rfl)
    have HQ9 := hid (show X9.heap[w.heap.size]? = some (.cells #[.int .i64 f.last, .int .i64 f.size, .int .i64 f.cool, .int .i64 f.die, .int .i64 f.burn, .int .i64 f.st.lo, .int .i64 f.st.hi, .slice Aw nw cw, .slice At nt ct, .slice Ar nr cr] 28 (0, 0)) from by rw [← hX9]; exact set_heap (hx7.heap Q0c.out) hnp)
    have HY9 := hid (show Ev w X9 from by rw [← hX9]; exact Ev.setCell (p := ⟨p, 7, none⟩) (HEW.out.trans hx7) (show w.heap.size ≤ p by omega) _)
    have HS9 := hid (show ∀ o, X9.cell? ⟨w.heap.size, o, none⟩ = W2.cell? ⟨w.heap.size, o, none⟩ from fun o => by rw [← hX9]; exact (cell_set_ne hnp).trans (HSE.out _ hx7 o))
    have hr3'' := hid (show X9.ownsRow _ _ _ _ _ _ from by rw [← hX9]; exact own_set hr3'.out hxp.out (by decide))
    have hr7' := hid (show X9.ownsRow _ _ _ _ _ _ from by rw [← hX9]; exact own_set hr7.out hxp.out (by decide))
    clear hX9 hxp y0 y1 y2 y3 y4 y5 y6 y7 y8 y9 f0 f1 f2 f3 f4 f5 f6 f7 f8 f9
    refine hK.out _ _ (HS9.out) (fun hHeld => ?_)
    clear hK K
    (try simp only [Act.put, sA, sB, sC])
    refine tkH 10 (some 40) ?_
    (try simp only [Act.put, sA, sB, sC])
    refine wpAnyH_one (i := 11) rfl (by kernel_rfl) (by rfl) (fun K hK => ?_)
    have hxp := hid HX9.out
    obtain ⟨y0, y1, y2, y3, y4, y5, y6, y7, y8, y9⟩ := cells10 hxp.out
    obtain ⟨f0, f1, f2, f3, f4, f5, f6, f7, f8, f9⟩ := frz10 hxp.out
    go_simp
    generalize hX11 : World.setCell X9 _ _ = X11
    have HX11 := hid (show X11.heap[p]? = some (.cells #[.int .i64 f.last, .int .i64 f.size, .int .i64 f.cool, .int .i64 f.die, .int .i64 f.burn, .int .i64 f.st.lo, .int .i64 f.st.hi, .slice V3 nw cx3, .slice At nt ct, .slice V7 nr cx7] 28 (0, 0)) from by rw [← hX11, set_heap_same hxp.out]; rfl)
    have HQ11 := hid (show X11.heap[w.heap.size]? = some (.cells #[.int .i64 f.last, .int .i64 f.size, .int .i64 f.cool, .int .i64 f.die, .int .i64 f.burn, .int .i64 f.st.lo, .int .i64 f.st.hi, .slice Aw nw cw, .slice At nt ct, .slice Ar nr cr] 28 (0, 0)) from by rw [← hX11]; exact set_heap HQ9.out hnp)
    have HY11 := hid (show Ev w X11 from by rw [← hX11]; exact Ev.setCell (p := ⟨p, 9, none⟩) HY9.out (show w.heap.size ≤ p by omega) _)
    have HS11 := hid (show ∀ o, X11.cell? ⟨w.heap.size, o, none⟩ = W2.cell? ⟨w.heap.size, o, none⟩ from fun o => by rw [← hX11]; exact (cell_set_ne hnp).trans (HS9.out o))
    have hr3''' := hid (show X11.ownsRow _ _ _ _ _ _ from by rw [← hX11]; exact own_set hr3''.out hxp.out (by decide))
    have hr7'' := hid (show X11.ownsRow _ _ _ _ _ _ from by rw [← hX11]; exact own_set hr7'.out hxp.out (by decide))
    clear hX11 hxp y0 y1 y2 y3 y4 y5 y6 y7 y8 y9 f0 f1 f2 f3 f4 f5 f6 f7 f8 f9
    refine hK.out _ _ (HS11.out) (fun hHeld => ?_)
    clear hK K
    (try simp only [Act.put, sA, sB, sC])
    refine wpAnyH_done (by kernel_rfl) ?_ _
    go_wp2_with fail
    go_meet
    exact ⟨V3, cx3, V7, cx7, HY11.out, HQ11, HX11, hr3''', hr7''⟩
  ·
   go_simp
   generalize hW4 : World.drew (World.alloc W2 _) = A4
   have hb4 : Ev W2 A4 := by rw [← hW4]; exact Ev.drew (Ev.alloc (Ev.refl _) _)
   have hx4 : Ev W2 A4 := hb4
   have hr4 := hid (show A4.ownsRow W2.heap.size 96 3 (.slice (some ⟨W2.heap.size, 0, none⟩) 0 0) 0 [] from by rw [← hW4]; exact (World.ownsRow_lit W2 #[] 0 (Nat.le_refl _) (by decide) rfl).ev (Ev.drew (Ev.refl _)))
   clear hW4
   refine hK.out _ _ (HSE.out _ hx4) (fun hHeld => ?_)
   clear hK K
   (try simp only [Act.put, sA, sB, sC])
   refine wpAnyH_one (i := 0) rfl (by kernel_rfl) (by rfl) (fun K hK => ?_)
   go_simp
   generalize hW0 : World.alloc A4 _ = A0
   have hb0 : Ev A4 A0 := by rw [← hW0]; exact Ev.alloc (Ev.refl _) _
   have hx0 : Ev W2 A0 := hx4.trans hb0
   have hr0 := hid (show A0.ownsRow W2.heap.size 23 2 (.slice (some ⟨A4.heap.size, 0, none⟩) 0 0) 0 [] from by rw [← hW0]; exact World.ownsRow_lit A4 #[] 0 (hx4.size) (by decide) rfl)
   have hr4' := hid (hr4.out.ev hb0)
   clear hW0
   refine hK.out _ _ (HSE.out _ hx0) (fun hHeld => ?_)
   clear hK K
   (try simp only [Act.put, sA, sB, sC])
   refine wpAnyH_ready (rs := [3]) (by kernel_rfl) (by simp) ?_
   refine AllReadyH.cons rfl (fun K hK => ?_) AllReadyH.nil
   first | refine step_append_any (enc := rgc) rfl (.tmp 31) (.tmp 33) 24 rfl W2.heap.size 23 j0 _ 2 16 Try.underlying24 hj0 hj1 hj2 hj3 rfl (by decide) _ 0 [] rfl hr0.out Aw nw cw f.wet _ rfl (HLR.out.ev (HEW.out.trans hx0)) (rgc_len _) (rgc_one _) (by unfold maxLen; omega) (by omega) (hx0.size) ?_ | refine wp_append_any (enc := rgc) rfl (.tmp 31) (.tmp 33) 24 rfl W2.heap.size 23 j0 _ 2 16 Try.underlying24 hj0 hj1 hj2 hj3 rfl (by decide) _ 0 [] rfl hr0.out Aw nw cw f.wet _ rfl (HLR.out.ev (HEW.out.trans hx0)) (rgc_len _) (rgc_one _) (by unfold maxLen; omega) (by omega) (hx0.size) ?_
   intro v' B3 hown' hgrow
   have hown2 : B3.ownsRow W2.heap.size 23 2 v' nw (f.wet.flatMap rgc) := by simpa using hown'
   obtain ⟨V3, cx3, rfl⟩ := own_form hown2
   have hr3 := hid hown2
   have hx3 : Ev W2 B3 := Ev.grown hx0 hgrow (fun k e => (hr0.out.lt k e).1)
   have hr4'' := hid (hr4'.out.kept hgrow (own_ne hr0.out hr4'.out (by decide)))
   clear hown' hgrow hown2
   refine hK.out _ _ (HSE.out _ hx3) (fun hHeld => ?_)
   clear hK K
   (try simp only [Act.put, sA, sB, sC])
   refine tkH 8 (some 39) ?_
   (try simp only [Act.put, sA, sB, sC])
   refine wpAnyH_ready (rs := [7]) (by kernel_rfl) (by simp) ?_
   refine AllReadyH.cons rfl (fun K hK => ?_) AllReadyH.nil
   first | refine step_append_any (enc := rdc) rfl (.tmp 35) (.tmp 37) 26 rfl W2.heap.size 96 k0 _ 3 24 Try.underlying26 hk0 hk1 hk2 hk3 rfl (by decide) _ 0 [] rfl hr4''.out Ar nr cr f.rds _ rfl (HLK.out.ev (HEW.out.trans hx3)) (rdc_len _) (rdc_one2 _) (by unfold maxLen; omega) (by omega) (hx3.size) ?_ | refine wp_append_any (enc := rdc) rfl (.tmp 35) (.tmp 37) 26 rfl W2.heap.size 96 k0 _ 3 24 Try.underlying26 hk0 hk1 hk2 hk3 rfl (by decide) _ 0 [] rfl hr4''.out Ar nr cr f.rds _ rfl (HLK.out.ev (HEW.out.trans hx3)) (rdc_len _) (rdc_one2 _) (by unfold maxLen; omega) (by omega) (hx3.size) ?_
   intro v' B7 hown' hgrow
   have hown2 : B7.ownsRow W2.heap.size 96 3 v' nr (f.rds.flatMap rdc) := by simpa using hown'
   obtain ⟨V7, cx7, rfl⟩ := own_form hown2
   have hr7 := hid hown2
   have hx7 : Ev W2 B7 := Ev.grown hx3 hgrow (fun k e => (hr4''.out.lt k e).1)
   have hr3' := hid (hr3.out.kept hgrow (own_ne hr4''.out hr3.out (by decide)))
   clear hown' hgrow hown2
   refine hK.out _ _ (HSE.out _ hx7) (fun hHeld => ?_)
   clear hK K
   (try simp only [Act.put, sA, sB, sC])
   refine wpAnyH_one (i := 9) rfl (by kernel_rfl) (by rfl) (fun K hK => ?_)
   have hxp := hid (hx7.heap HC2.out)
   obtain ⟨y0, y1, y2, y3, y4, y5, y6, y7, y8, y9⟩ := cells10 hxp.out
   obtain ⟨f0, f1, f2, f3, f4, f5, f6, f7, f8, f9⟩ := frz10 hxp.out
   go_simp
   generalize hX9 : World.setCell B7 _ _ = X9
   have HX9 := hid (show X9.heap[p]? = some (.cells #[.int .i64 f.last, .int .i64 f.size, .int .i64 f.cool, .int .i64 f.die, .int .i64 f.burn, .int .i64 f.st.lo, .int .i64 f.st.hi, .slice V3 nw cx3, .slice At nt ct, .slice Ar nr cr] 28 (0, 0)) from by rw [← hX9, set_heap_same hxp.out]; rfl)
   have HQ9 := hid (show X9.heap[w.heap.size]? = some (.cells #[.int .i64 f.last, .int .i64 f.size, .int .i64 f.cool, .int .i64 f.die, .int .i64 f.burn, .int .i64 f.st.lo, .int .i64 f.st.hi, .slice Aw nw cw, .slice At nt ct, .slice Ar nr cr] 28 (0, 0)) from by rw [← hX9]; exact set_heap (hx7.heap Q0c.out) hnp)
   have HY9 := hid (show Ev w X9 from by rw [← hX9]; exact Ev.setCell (p := ⟨p, 7, none⟩) (HEW.out.trans hx7) (show w.heap.size ≤ p by omega) _)
   have HS9 := hid (show ∀ o, X9.cell? ⟨w.heap.size, o, none⟩ = W2.cell? ⟨w.heap.size, o, none⟩ from fun o => by rw [← hX9]; exact (cell_set_ne hnp).trans (HSE.out _ hx7 o))
   have hr3'' := hid (show X9.ownsRow _ _ _ _ _ _ from by rw [← hX9]; exact own_set hr3'.out hxp.out (by decide))
   have hr7' := hid (show X9.ownsRow _ _ _ _ _ _ from by rw [← hX9]; exact own_set hr7.out hxp.out (by decide))
   clear hX9 hxp y0 y1 y2 y3 y4 y5 y6 y7 y8 y9 f0 f1 f2 f3 f4 f5 f6 f7 f8 f9
   refine hK.out _ _ (HS9.out) (fun hHeld => ?_)
   clear hK K
   (try simp only [Act.put, sA, sB, sC])
   refine tkH 10 (some 40) ?_
   (try simp only [Act.put, sA, sB, sC])
   refine wpAnyH_one (i := 11) rfl (by kernel_rfl) (by rfl) (fun K hK => ?_)
   have hxp := hid HX9.out
   obtain ⟨y0, y1, y2, y3, y4, y5, y6, y7, y8, y9⟩ := cells10 hxp.out
   obtain ⟨f0, f1, f2, f3, f4, f5, f6, f7, f8, f9⟩ := frz10 hxp.out
   go_simp
   generalize hX11 : World.setCell X9 _ _ = X11
   have HX11 := hid (show X11.heap[p]? = some (.cells #[.int .i64 f.last, .int .i64 f.size, .int .i64 f.cool, .int .i64 f.die, .int .i64 f.burn, .int .i64 f.st.lo, .int .i64 f.st.hi, .slice V3 nw cx3, .slice At nt ct, .slice V7 nr cx7] 28 (0, 0)) from by rw [← hX11, set_heap_same hxp.out]; rfl)
   have HQ11 := hid (show X11.heap[w.heap.size]? = some (.cells #[.int .i64 f.last, .int .i64 f.size, .int .i64 f.cool, .int .i64 f.die, .int .i64 f.burn, .int .i64 f.st.lo, .int .i64 f.st.hi, .slice Aw nw cw, .slice At nt ct, .slice Ar nr cr] 28 (0, 0)) from by rw [← hX11]; exact set_heap HQ9.out hnp)
   have HY11 := hid (show Ev w X11 from by rw [← hX11]; exact Ev.setCell (p := ⟨p, 9, none⟩) HY9.out (show w.heap.size ≤ p by omega) _)
   have HS11 := hid (show ∀ o, X11.cell? ⟨w.heap.size, o, none⟩ = W2.cell? ⟨w.heap.size, o, none⟩ from fun o => by rw [← hX11]; exact (cell_set_ne hnp).trans (HS9.out o))
   have hr3''' := hid (show X11.ownsRow _ _ _ _ _ _ from by rw [← hX11]; exact own_set hr3''.out hxp.out (by decide))
   have hr7'' := hid (show X11.ownsRow _ _ _ _ _ _ from by rw [← hX11]; exact own_set hr7'.out hxp.out (by decide))
   clear hX11 hxp y0 y1 y2 y3 y4 y5 y6 y7 y8 y9 f0 f1 f2 f3 f4 f5 f6 f7 f8 f9
   refine hK.out _ _ (HS11.out) (fun hHeld => ?_)
   clear hK K
   (try simp only [Act.put, sA, sB, sC])
   refine wpAnyH_done (by kernel_rfl) ?_ _
   go_wp2_with fail
   go_meet
   exact ⟨V3, cx3, V7, cx7, HY11.out, HQ11, HX11, hr3''', hr7''⟩
 case rest =>
  clear HSE HLR HLK HC2 Q0c y0 y1 y2 y3 y4 y5 y6 y7 y8 y9 lbx
  obtain ⟨VW, cW, VL, cL, hE1, HQ1, HX1, HR1, HK1⟩ := hcut
  obtain ⟨W3, hW3⟩ : ∃ x, x = wc := ⟨_, rfl⟩
  subst hW3
  obtain ⟨y0, y1, y2, y3, y4, y5, y6, y7, y8, y9⟩ := cells10 HX1.out
  go_upto_if 53 with fail
  go_cut [] (fun W => ∃ (VW : Option Addr) (cW : Nat) (VL : Option Addr) (cL : Nat) (G : M.Rg), Ev w W ∧ Hid (W.heap[w.heap.size]? = some (.cells #[.int .i64 f.last, .int .i64 f.size, .int .i64 f.cool, .int .i64 f.die, .int .i64 f.burn, .int .i64 f.st.lo, .int .i64 f.st.hi, .slice Aw nw cw, .slice At nt ct, .slice Ar nr cr] 28 (0, 0))) ∧ Hid (W.heap[p]? = some (.cells #[.int .i64 f.last, .int .i64 f.size, .int .i64 f.cool, .int .i64 f.die, .int .i64 f.burn, .int .i64 G.lo, .int .i64 G.hi, .slice VW nw cW, .slice At nt ct, .slice VL nr cL] 28 (0, 0))) ∧ Hid (W.ownsRow W2.heap.size 23 2 (.slice VW nw cW) nw (f.wet.flatMap rgc)) ∧ Hid (W.ownsRow W2.heap.size 96 3 (.slice VL nr cL) nr (f.rds.flatMap rdc)) ∧ Hid (M.Wd f G f.wet f.rds ∧ (a % 3 ≠ 0 → G = f.st)))
  case first =>
   as_aux_lemma =>
   obtain ⟨q0, q1, q2, q3, q4, q5, q6, q7, q8, q9⟩ := cells10 HQ1.out
   have hsb := (M.valid_parts hv).2.2.2.1
   by_cases ha : a % 3 = 0
   ·
    have hw1 : IntKind.i64.wrap (f.st.lo - b % 3) = f.st.lo - b % 3 := IntWalk.i64_in _ (by omega)
    have hw2 : IntKind.i64.wrap (f.st.hi + b / 4 % 3) = f.st.hi + b / 4 % 3 := IntWalk.i64_in _ (by omega)
    obtain ⟨f0, f1, f2, f3, f4, f5, f6, f7, f8, f9⟩ := frz10 HX1.out
    by_cases k1 : 0 < f.st.lo - b % 3
    ·
     have cm1 : max 0 (f.st.lo - b % 3) = f.st.lo - b % 3 := by omega
     by_cases k2 : 500 ≤ f.st.hi + b / 4 % 3
     ·
      have cm2 : min 500 (f.st.hi + b / 4 % 3) = 500 := by omega
      go_wp2_with fail
      go_meet
      have hwd : M.wdR f.st (b % 3) (b / 4 % 3) 500 = ⟨f.st.lo - b % 3, 500⟩ := by unfold M.wdR; rw [cm1, cm2]
      exact ⟨VW, cW, VL, cL, M.wdR f.st (b % 3) (b / 4 % 3) 500, Ev.setCell (p := ⟨p, 6, none⟩) (Ev.setCell (p := ⟨p, 5, none⟩) hE1 (show w.heap.size ≤ p by omega) _) (show w.heap.size ≤ p by omega) _, hid (set_heap (set_heap HQ1.out hnp) hnp), hid (by rw [set_heap_same (set_heap_same HX1.out), hwd]; rfl), hid (own_set (own_set HR1.out HX1.out (by decide)) (set_heap_same HX1.out) (by decide)), hid (own_set (own_set HK1.out HX1.out (by decide)) (set_heap_same HX1.out) (by decide)), hid ⟨M.wd_st hv (by omega) (by omega), fun h => absurd ha h⟩⟩
     ·
      have cm2 : min 500 (f.st.hi + b / 4 % 3) = f.st.hi + b / 4 % 3 := by omega
      go_wp2_with fail
      go_meet
      have hwd : M.wdR f.st (b % 3) (b / 4 % 3) 500 = ⟨f.st.lo - b % 3, f.st.hi + b / 4 % 3⟩ := by unfold M.wdR; rw [cm1, cm2]
      exact ⟨VW, cW, VL, cL, M.wdR f.st (b % 3) (b / 4 % 3) 500, Ev.setCell (p := ⟨p, 6, none⟩) (Ev.setCell (p := ⟨p, 5, none⟩) hE1 (show w.heap.size ≤ p by omega) _) (show w.heap.size ≤ p by omega) _, hid (set_heap (set_heap HQ1.out hnp) hnp), hid (by rw [set_heap_same (set_heap_same HX1.out), hwd]; rfl), hid (own_set (own_set HR1.out HX1.out (by decide)) (set_heap_same HX1.out) (by decide)), hid (own_set (own_set HK1.out HX1.out (by decide)) (set_heap_same HX1.out) (by decide)), hid ⟨M.wd_st hv (by omega) (by omega), fun h => absurd ha h⟩⟩
    ·
     have cm1 : max 0 (f.st.lo - b % 3) = 0 := by omega
     by_cases k2 : 500 ≤ f.st.hi + b / 4 % 3
     ·
      have cm2 : min 500 (f.st.hi + b / 4 % 3) = 500 := by omega
      go_wp2_with fail
      go_meet
      have hwd : M.wdR f.st (b % 3) (b / 4 % 3) 500 = ⟨0, 500⟩ := by unfold M.wdR; rw [cm1, cm2]
      exact ⟨VW, cW, VL, cL, M.wdR f.st (b % 3) (b / 4 % 3) 500, Ev.setCell (p := ⟨p, 6, none⟩) (Ev.setCell (p := ⟨p, 5, none⟩) hE1 (show w.heap.size ≤ p by omega) _) (show w.heap.size ≤ p by omega) _, hid (set_heap (set_heap HQ1.out hnp) hnp), hid (by rw [set_heap_same (set_heap_same HX1.out), hwd]; rfl), hid (own_set (own_set HR1.out HX1.out (by decide)) (set_heap_same HX1.out) (by decide)), hid (own_set (own_set HK1.out HX1.out (by decide)) (set_heap_same HX1.out) (by decide)), hid ⟨M.wd_st hv (by omega) (by omega), fun h => absurd ha h⟩⟩
     ·
      have cm2 : min 500 (f.st.hi + b / 4 % 3) = f.st.hi + b / 4 % 3 := by omega
      go_wp2_with fail
      go_meet
      have hwd : M.wdR f.st (b % 3) (b / 4 % 3) 500 = ⟨0, f.st.hi + b / 4 % 3⟩ := by unfold M.wdR; rw [cm1, cm2]
      exact ⟨VW, cW, VL, cL, M.wdR f.st (b % 3) (b / 4 % 3) 500, Ev.setCell (p := ⟨p, 6, none⟩) (Ev.setCell (p := ⟨p, 5, none⟩) hE1 (show w.heap.size ≤ p by omega) _) (show w.heap.size ≤ p by omega) _, hid (set_heap (set_heap HQ1.out hnp) hnp), hid (by rw [set_heap_same (set_heap_same HX1.out), hwd]; rfl), hid (own_set (own_set HR1.out HX1.out (by decide)) (set_heap_same HX1.out) (by decide)), hid (own_set (own_set HK1.out HX1.out (by decide)) (set_heap_same HX1.out) (by decide)), hid ⟨M.wd_st hv (by omega) (by omega), fun h => absurd ha h⟩⟩
   ·
    go_wp2_with fail
    go_meet
    exact ⟨VW, cW, VL, cL, f.st, hE1, HQ1, HX1, HR1, HK1, hid ⟨M.wd_same f, fun _ => rfl⟩⟩
  case rest =>
  clear y0 y1 y2 y3 y4 y5 y6 y7 y8 y9
  obtain ⟨VW, cW, VL, cL, G, hE2, HQ2, HX2, HR2, HK2, HD2⟩ := hcut
  obtain ⟨W4, hW4⟩ : ∃ x, x = wc := ⟨_, rfl⟩
  subst hW4
  obtain ⟨y0, y1, y2, y3, y4, y5, y6, y7, y8, y9⟩ := cells10 HX2.out
  go_upto_if 70 with fail
  go_cut [] (fun W => ∃ (VW : Option Addr) (cW : Nat) (VL : Option Addr) (cL : Nat) (G : M.Rg) (WW : List M.Rg), Ev w W ∧ Hid (W.heap[w.heap.size]? = some (.cells #[.int .i64 f.last, .int .i64 f.size, .int .i64 f.cool, .int .i64 f.die, .int .i64 f.burn, .int .i64 f.st.lo, .int .i64 f.st.hi, .slice Aw nw cw, .slice At nt ct, .slice Ar nr cr] 28 (0, 0))) ∧ Hid (W.heap[p]? = some (.cells #[.int .i64 f.last, .int .i64 f.size, .int .i64 f.cool, .int .i64 f.die, .int .i64 f.burn, .int .i64 G.lo, .int .i64 G.hi, .slice VW nw cW, .slice At nt ct, .slice VL nr cL] 28 (0, 0))) ∧ Hid (W.ownsRow W2.heap.size 23 2 (.slice VW nw cW) nw (WW.flatMap rgc)) ∧ Hid (W.ownsRow W2.heap.size 96 3 (.slice VL nr cL) nr (f.rds.flatMap rdc)) ∧ Hid (M.Wd f G WW f.rds ∧ (a % 3 = 2 → G = f.st ∧ WW = f.wet)))
  case first =>
   as_aux_lemma =>
   have hnw : f.wet.length = nw := HCS.out.w_.len
   have hnw0 : 0 < nw := by have h1 := M.valid_parts hv; have h2 := h1.2.2.2.2.1; have h3 := h1.2.2.2.2.2.1; omega
   by_cases ha : a % 3 = 1
   ·
    obtain rfl : G = f.st := HD2.out.2 (by omega)
    obtain ⟨gx, rfl, lgx, ltx, _, hfx, hcx⟩ := own_someN HR2.out hnw0
    obtain ⟨kx, hkx⟩ : ∃ kx : Nat, a / 3 % (nw : Int) = kx := ⟨(a / 3 % nw).toNat, by have := Int.emod_nonneg (a / 3) (show (nw : Int) ≠ 0 by omega); omega⟩
    have hkl : kx < nw := by have := Int.emod_lt_of_pos (a / 3) (show (0 : Int) < nw by omega); omega
    have hnz : ¬ nw = 0 := by omega
    have hkt : (a / 3).tmod (nw : Int) = kx := by rw [Int.tmod_eq_emod_of_nonneg (by omega)]; exact hkx
    obtain ⟨rx, hrx⟩ : ∃ x, f.wet[kx]? = some x := ⟨_, List.getElem?_eq_getElem (show kx < f.wet.length by omega)⟩
    have c1 : W4.cell? ⟨gx, kx * 2, none⟩ = some (.int .i64 rx.lo) := by rw [Nat.mul_comm]; exact hcx _ _ (rgc_at f.wet kx rx hrx).1
    have c2 : W4.cell? ⟨gx, kx * 2 + 1, none⟩ = some (.int .i64 rx.hi) := by rw [Nat.mul_comm]; exact hcx _ _ (rgc_at f.wet kx rx hrx).2
    have hrb := M.wet_bd hv rx (List.mem_of_getElem? hrx)
    have hw1 : IntKind.i64.wrap (rx.lo - b % 3) = rx.lo - b % 3 := IntWalk.i64_in _ (by omega)
    have hw2 : IntKind.i64.wrap (rx.hi + b / 4 % 3) = rx.hi + b / 4 % 3 := IntWalk.i64_in _ (by omega)
    have fx1 := hfx (kx * 2)
    have fx2 := hfx (kx * 2 + 1)
    have hnx := own_neB HR2.out HX2.out (by decide)
    have hnx2 := own_neB HR2.out HQ2.out (by decide)
    have hpg : p ≠ gx := fun e => hnx (by rw [e]; rfl)
    have hqg : w.heap.size ≠ gx := fun e => hnx2 (by rw [e]; rfl)
    clear hnx hnx2
    go_upto_region 10 with fail
    refine wp_region_held_drew (S := fun w' => (∀ o, w'.cell? ⟨p, o, none⟩ = W4.cell? ⟨p, o, none⟩)) (by kernel_rfl) (fun o => rfl) (fun hHeld => ?_)
    refine tkH 0 (some 71) ?_
    (try simp only [Act.put, sA, sB, sC])
    refine tkH 1 (some 72) ?_
    (try simp only [Act.put, sA, sB, sC])
    refine tkH 2 (some 73) ?_
    (try simp only [Act.put, sA, sB, sC])
    refine tkH 3 (some 74) ?_
    (try simp only [Act.put, sA, sB, sC])
    refine tkH 4 (some 75) ?_
    (try simp only [Act.put, sA, sB, sC])
    refine tkH 5 (some 76) ?_
    (try simp only [Act.put, sA, sB, sC])
    refine tkH 6 (some 77) ?_
    (try simp only [Act.put, sA, sB, sC])
    refine tkH 7 (some 78) ?_
    (try simp only [Act.put, sA, sB, sC])
    refine tkH 8 (some 13) ?_
    (try simp only [Act.put, sA, sB, sC])
    refine wpAnyH_done (by kernel_rfl) ?_ _
    go_upto_region 11 with fail
    refine wp_region_held_drew (S := fun _ => True) (by kernel_rfl) (trivial) (fun hHeld => ?_)
    refine tkH 0 (some 79) ?_
    (try simp only [Act.put, sA, sB, sC])
    refine tkH 1 (some 80) ?_
    (try simp only [Act.put, sA, sB, sC])
    refine tkH 2 (some 81) ?_
    (try simp only [Act.put, sA, sB, sC])
    refine tkH 3 (some 82) ?_
    (try simp only [Act.put, sA, sB, sC])
    refine tkH 4 (some 83) ?_
    (try simp only [Act.put, sA, sB, sC])
    refine tkH 6 (some 85) ?_
    (try simp only [Act.put, sA, sB, sC])
    refine tkH 9 (some 88) ?_
    (try simp only [Act.put, sA, sB, sC])
    refine tkH 10 (some 89) ?_
    (try simp only [Act.put, sA, sB, sC])
    refine tkH 11 (some 90) ?_
    (try simp only [Act.put, sA, sB, sC])
    refine tkH 13 (some 92) ?_
    (try simp only [Act.put, sA, sB, sC])
    refine wpAnyH_ready (rs := [5, 12]) (by kernel_rfl) (by simp) ?_
    refine AllReadyH.cons rfl (fun K hK => ?_) (AllReadyH.cons rfl (fun K hK => ?_) (AllReadyH.nil))
    ·
     go_simp
     refine hK.out _ _ (trivial) (fun hHeld => ?_)
     clear hK K
     (try simp only [Act.put, sA, sB, sC])
     refine tkH 7 (some 86) ?_
     (try simp only [Act.put, sA, sB, sC])
     refine tkH 8 (some 87) ?_
     (try simp only [Act.put, sA, sB, sC])
     refine wpAnyH_one (i := 12) rfl (by kernel_rfl) (by rfl) (fun K hK => ?_)
     go_simp
     refine hK.out _ _ (trivial) (fun hHeld => ?_)
     clear hK K
     (try simp only [Act.put, sA, sB, sC])
     refine tkH 14 (some 93) ?_
     (try simp only [Act.put, sA, sB, sC])
     refine tkH 15 (some 94) ?_
     (try simp only [Act.put, sA, sB, sC])
     refine tkH 16 (some 95) ?_
     (try simp only [Act.put, sA, sB, sC])
     refine tkH 17 (some 96) ?_
     (try simp only [Act.put, sA, sB, sC])
     refine wpAnyH_one (i := 18) rfl (by kernel_rfl) (by rfl) (fun K hK => ?_)
     go_simp
     refine hK.out _ _ (trivial) (fun hHeld => ?_)
     clear hK K
     (try simp only [Act.put, sA, sB, sC])
     refine tkH 19 (some 97) ?_
     (try simp only [Act.put, sA, sB, sC])
     refine tkH 20 (some 98) ?_
     (try simp only [Act.put, sA, sB, sC])
     refine wpAnyH_one (i := 21) rfl (by kernel_rfl) (by rfl) (fun K hK => ?_)
     go_simp
     refine hK.out _ _ (trivial) (fun hHeld => ?_)
     clear hK K
     (try simp only [Act.put, sA, sB, sC])
     refine wpAnyH_done (by kernel_rfl) ?_ _
     go_wp2_with fail
     all_goals (go_meet; exact ⟨some ⟨gx, 0, none⟩, cW, VL, cL, f.st, f.wet.set kx (M.wdR rx (b % 3) (b / 4 % 3) 20), Ev.drew (Ev.drew (Ev.setCell (p := ⟨gx, kx * 2 + 1, none⟩) (Ev.setCell (p := ⟨gx, kx * 2, none⟩) hE2 (show w.heap.size ≤ gx by omega) _) (show w.heap.size ≤ gx by omega) _)), hid (set_heap (set_heap HQ2.out hqg) hqg), hid (set_heap (set_heap HX2.out hpg) hpg), hid ((own_wideR HR2.out (by omega) (by show _ = max 0 (rx.lo - b % 3); omega) (by show _ = min 20 (rx.hi + b / 4 % 3); omega)).ev (Ev.drew (Ev.drew (Ev.refl _)))), hid ((own_setR (own_putN HR2.out _ _) (own_setR HR2.out HK2.out (by decide)) (by decide)).ev (Ev.drew (Ev.drew (Ev.refl _)))), hid ⟨M.wd_wt hv (by omega) (by omega) hrx, fun h => absurd h (by omega)⟩⟩)
    ·
     go_simp
     refine hK.out _ _ (trivial) (fun hHeld => ?_)
     clear hK K
     (try simp only [Act.put, sA, sB, sC])
     refine tkH 14 (some 93) ?_
     (try simp only [Act.put, sA, sB, sC])
     refine tkH 15 (some 94) ?_
     (try simp only [Act.put, sA, sB, sC])
     refine wpAnyH_one (i := 5) rfl (by kernel_rfl) (by rfl) (fun K hK => ?_)
     go_simp
     refine hK.out _ _ (trivial) (fun hHeld => ?_)
     clear hK K
     (try simp only [Act.put, sA, sB, sC])
     refine tkH 7 (some 86) ?_
     (try simp only [Act.put, sA, sB, sC])
     refine tkH 8 (some 87) ?_
     (try simp only [Act.put, sA, sB, sC])
     refine tkH 16 (some 95) ?_
     (try simp only [Act.put, sA, sB, sC])
     refine tkH 17 (some 96) ?_
     (try simp only [Act.put, sA, sB, sC])
     refine wpAnyH_one (i := 18) rfl (by kernel_rfl) (by rfl) (fun K hK => ?_)
     go_simp
     refine hK.out _ _ (trivial) (fun hHeld => ?_)
     clear hK K
     (try simp only [Act.put, sA, sB, sC])
     refine tkH 19 (some 97) ?_
     (try simp only [Act.put, sA, sB, sC])
     refine tkH 20 (some 98) ?_
     (try simp only [Act.put, sA, sB, sC])
     refine wpAnyH_one (i := 21) rfl (by kernel_rfl) (by rfl) (fun K hK => ?_)
     go_simp
     refine hK.out _ _ (trivial) (fun hHeld => ?_)
     clear hK K
     (try simp only [Act.put, sA, sB, sC])
     refine wpAnyH_done (by kernel_rfl) ?_ _
     go_wp2_with fail
     all_goals (go_meet; exact ⟨some ⟨gx, 0, none⟩, cW, VL, cL, f.st, f.wet.set kx (M.wdR rx (b % 3) (b / 4 % 3) 20), Ev.drew (Ev.drew (Ev.setCell (p := ⟨gx, kx * 2 + 1, none⟩) (Ev.setCell (p := ⟨gx, kx * 2, none⟩) hE2 (show w.heap.size ≤ gx by omega) _) (show w.heap.size ≤ gx by omega) _)), hid (set_heap (set_heap HQ2.out hqg) hqg), hid (set_heap (set_heap HX2.out hpg) hpg), hid ((own_wideR HR2.out (by omega) (by show _ = max 0 (rx.lo - b % 3); omega) (by show _ = min 20 (rx.hi + b / 4 % 3); omega)).ev (Ev.drew (Ev.drew (Ev.refl _)))), hid ((own_setR (own_putN HR2.out _ _) (own_setR HR2.out HK2.out (by decide)) (by decide)).ev (Ev.drew (Ev.drew (Ev.refl _)))), hid ⟨M.wd_wt hv (by omega) (by omega) hrx, fun h => absurd h (by omega)⟩⟩)
   ·
    go_wp2_with fail
    go_meet
    exact ⟨VW, cW, VL, cL, G, f.wet, hE2, HQ2, HX2, HR2, HK2, hid ⟨HD2.out.1, fun h => ⟨HD2.out.2 (by omega), rfl⟩⟩⟩
  case rest =>
  clear y0 y1 y2 y3 y4 y5 y6 y7 y8 y9
  obtain ⟨VW, cW, VL, cL, G, WW, hE3, HQ3, HX3, HR3, HK3, HD3⟩ := hcut
  obtain ⟨W5, hW5⟩ : ∃ x, x = wc := ⟨_, rfl⟩
  subst hW5
  obtain ⟨y0, y1, y2, y3, y4, y5, y6, y7, y8, y9⟩ := cells10 HX3.out
  go_upto_region 13 with fail
  go_cut [108] (fun v W => v = .bool (decide (a % 3 = 2 ∧ 0 < nr)) ∧ ∃ (VW : Option Addr) (cW : Nat) (VL : Option Addr) (cL : Nat) (G : M.Rg) (WW : List M.Rg), Ev w W ∧ Hid (W.heap[w.heap.size]? = some (.cells #[.int .i64 f.last, .int .i64 f.size, .int .i64 f.cool, .int .i64 f.die, .int .i64 f.burn, .int .i64 f.st.lo, .int .i64 f.st.hi, .slice Aw nw cw, .slice At nt ct, .slice Ar nr cr] 28 (0, 0))) ∧ Hid (W.heap[p]? = some (.cells #[.int .i64 f.last, .int .i64 f.size, .int .i64 f.cool, .int .i64 f.die, .int .i64 f.burn, .int .i64 G.lo, .int .i64 G.hi, .slice VW nw cW, .slice At nt ct, .slice VL nr cL] 28 (0, 0))) ∧ Hid (W.ownsRow W2.heap.size 23 2 (.slice VW nw cW) nw (WW.flatMap rgc)) ∧ Hid (W.ownsRow W2.heap.size 96 3 (.slice VL nr cL) nr (f.rds.flatMap rdc)) ∧ Hid (M.Wd f G WW f.rds ∧ (a % 3 = 2 → G = f.st ∧ WW = f.wet)))
  case first =>
   as_aux_lemma =>
   by_cases ha : a % 3 = 2
   ·
    by_cases hl : 0 < nr
    ·
     have hl2 : (0 : Int) < nr := by omega
     go_wp2_with fail
     go_meet
     exact ⟨by simp [ha, hl], VW, cW, VL, cL, G, WW, hE3, HQ3, HX3, HR3, HK3, HD3⟩
    ·
     have hl2 : ¬ (0 : Int) < nr := by omega
     go_wp2_with fail
     go_meet
     exact ⟨by simp [ha, hl], VW, cW, VL, cL, G, WW, hE3, HQ3, HX3, HR3, HK3, HD3⟩
   ·
    go_wp2_with fail
    go_meet
    exact ⟨by simp [ha], VW, cW, VL, cL, G, WW, hE3, HQ3, HX3, HR3, HK3, HD3⟩
  case rest =>
  clear y0 y1 y2 y3 y4 y5 y6 y7 y8 y9
  obtain ⟨rfl, hcut⟩ := hcut
  obtain ⟨VW, cW, VL, cL, G, WW, hE33, HQ33, HX33, HR33, HK33, HD33⟩ := hcut
  obtain ⟨W6, hW6⟩ : ∃ x, x = wc := ⟨_, rfl⟩
  subst hW6
  obtain ⟨y0, y1, y2, y3, y4, y5, y6, y7, y8, y9⟩ := cells10 HX33.out
  go_upto_if 108 with fail
  go_cut [] (fun W => ∃ (VW : Option Addr) (cW : Nat) (VL : Option Addr) (cL : Nat) (G : M.Rg) (WW : List M.Rg) (L : List M.Rd), Ev w W ∧ Hid (W.heap[w.heap.size]? = some (.cells #[.int .i64 f.last, .int .i64 f.size, .int .i64 f.cool, .int .i64 f.die, .int .i64 f.burn, .int .i64 f.st.lo, .int .i64 f.st.hi, .slice Aw nw cw, .slice At nt ct, .slice Ar nr cr] 28 (0, 0))) ∧ Hid (W.heap[p]? = some (.cells #[.int .i64 f.last, .int .i64 f.size, .int .i64 f.cool, .int .i64 f.die, .int .i64 f.burn, .int .i64 G.lo, .int .i64 G.hi, .slice VW nw cW, .slice At nt ct, .slice VL nr cL] 28 (0, 0))) ∧ Hid (W.ownsRow W2.heap.size 23 2 (.slice VW nw cW) nw (WW.flatMap rgc)) ∧ Hid (W.ownsRow W2.heap.size 96 3 (.slice VL nr cL) nr (L.flatMap rdc)) ∧ Hid (M.Wd f G WW L))
  case first =>
   as_aux_lemma =>
   by_cases ha : a % 3 = 2 ∧ 0 < nr
   ·
    have hd := decide_eq_true ha
    obtain ⟨rfl, rfl⟩ : G = f.st ∧ WW = f.wet := HD33.out.2 ha.1
    have hnl : f.rds.length = nr := HCS.out.r.len
    obtain ⟨gx, rfl, lgx, ltx, _, hfx, hcx⟩ := own_someN HK33.out ha.2
    obtain ⟨kx, hkx⟩ : ∃ kx : Nat, a / 3 % (nr : Int) = kx := ⟨(a / 3 % nr).toNat, by have := Int.emod_nonneg (a / 3) (show (nr : Int) ≠ 0 by omega); omega⟩
    have hkl : kx < nr := by have := Int.emod_lt_of_pos (a / 3) (show (0 : Int) < nr by omega); omega
    have hnz : ¬ nr = 0 := by omega
    have hkt : (a / 3).tmod (nr : Int) = kx := by rw [Int.tmod_eq_emod_of_nonneg (by omega)]; exact hkx
    obtain ⟨rx, hrx⟩ : ∃ x, f.rds[kx]? = some x := ⟨_, List.getElem?_eq_getElem (show kx < f.rds.length by omega)⟩
    have c2 : W6.cell? ⟨gx, kx * 3 + 2, none⟩ = some (.int .i64 rx.er) := by rw [Nat.mul_comm]; exact hcx _ _ (rdc_at f.rds kx rx hrx)
    have hrb : M.validRd f rx = true := by
     have hv2 := hv
     unfold M.valid at hv2
     simp only [Bool.and_eq_true, List.all_eq_true] at hv2
     exact hv2.2.2.2.2 rx (List.mem_of_getElem? hrx)
    unfold M.validRd M.holds at hrb
    simp only [Bool.and_eq_true, decide_eq_true_eq] at hrb
    obtain ⟨_, _, hrb1, hrb2⟩ := hrb
    have hw2 : IntKind.i64.wrap (rx.er + b % 3) = rx.er + b % 3 := IntWalk.i64_in _ (by omega)
    have fx2 := hfx (kx * 3 + 2)
    have hnx := own_neB HK33.out HX33.out (by decide)
    have hnx2 := own_neB HK33.out HQ33.out (by decide)
    have hpg : p ≠ gx := fun e => hnx (by rw [e]; rfl)
    have hqg : w.heap.size ≠ gx := fun e => hnx2 (by rw [e]; rfl)
    clear hnx hnx2
    go_upto_region 14 with fail
    refine wp_region_held_drew (S := fun w' => (∀ o, w'.cell? ⟨p, o, none⟩ = W6.cell? ⟨p, o, none⟩)) (by kernel_rfl) (fun o => rfl) (fun hHeld => ?_)
    refine tkH 0 (some 109) ?_
    (try simp only [Act.put, sA, sB, sC])
    refine tkH 1 (some 110) ?_
    (try simp only [Act.put, sA, sB, sC])
    refine tkH 2 (some 111) ?_
    (try simp only [Act.put, sA, sB, sC])
    refine tkH 3 (some 112) ?_
    (try simp only [Act.put, sA, sB, sC])
    refine tkH 4 (some 113) ?_
    (try simp only [Act.put, sA, sB, sC])
    refine tkH 5 (some 114) ?_
    (try simp only [Act.put, sA, sB, sC])
    refine tkH 6 (some 115) ?_
    (try simp only [Act.put, sA, sB, sC])
    refine tkH 7 (some 116) ?_
    (try simp only [Act.put, sA, sB, sC])
    refine tkH 8 (some 117) ?_
    (try simp only [Act.put, sA, sB, sC])
    refine tkH 9 (some 118) ?_
    (try simp only [Act.put, sA, sB, sC])
    refine tkH 10 (some 119) ?_
    (try simp only [Act.put, sA, sB, sC])
    refine tkH 11 (some 120) ?_
    (try simp only [Act.put, sA, sB, sC])
    refine tkH 13 (some 122) ?_
    (try simp only [Act.put, sA, sB, sC])
    refine wpAnyH_one (i := 12) rfl (by kernel_rfl) (by rfl) (fun K hK => ?_)
    go_simp
    refine hK.out _ _ (fun o => rfl) (fun hHeld => ?_)
    clear hK K
    (try simp only [Act.put, sA, sB, sC])
    refine tkH 14 (some 123) ?_
    (try simp only [Act.put, sA, sB, sC])
    refine tkH 15 (some 124) ?_
    (try simp only [Act.put, sA, sB, sC])
    refine tkH 16 (some 125) ?_
    (try simp only [Act.put, sA, sB, sC])
    refine tkH 17 (some 126) ?_
    (try simp only [Act.put, sA, sB, sC])
    refine wpAnyH_one (i := 18) rfl (by kernel_rfl) (by rfl) (fun K hK => ?_)
    go_simp
    refine hK.out _ _ (fun o => cell_set_ne hpg) (fun hHeld => ?_)
    clear hK K
    (try simp only [Act.put, sA, sB, sC])
    refine wpAnyH_done (by kernel_rfl) ?_ _
    go_wp2_with fail
    all_goals (go_meet; exact ⟨VW, cW, some ⟨gx, 0, none⟩, cL, f.st, f.wet, f.rds.set kx ⟨rx.hr, rx.sn, min 50 (rx.er + b % 3)⟩, Ev.drew (Ev.setCell (p := ⟨gx, kx * 3 + 2, none⟩) hE33 (show w.heap.size ≤ gx by omega) _), hid (set_heap HQ33.out hqg), hid (set_heap HX33.out hpg), hid ((own_setR HK33.out HR33.out (by decide)).ev (Ev.drew (Ev.refl _))), hid ((own_wideE HK33.out hrx (by show _ = min 50 (rx.er + b % 3); omega)).ev (Ev.drew (Ev.refl _))), hid (M.wd_rd hv (by omega) hrx)⟩)
   ·
    have hd := decide_eq_false ha
    go_wp2_with fail
    go_meet
    exact ⟨VW, cW, VL, cL, G, WW, f.rds, hE33, HQ33, HX33, HR33, HK33, hid HD33.out.1⟩
  case rest =>
  clear y0 y1 y2 y3 y4 y5 y6 y7 y8 y9
  obtain ⟨VW, cW, VL, cL, G, WW, L, hE5, HQ5, HX5, HR4, HK4, HD4⟩ := hcut
  obtain ⟨W5, hW5⟩ : ∃ x, x = wc := ⟨_, rfl⟩
  subst hW5
  obtain ⟨y0, y1, y2, y3, y4, y5, y6, y7, y8, y9⟩ := cells10 HX5.out
  clear hE1 HQ1 HX1 HR1 HK1 hE2 HQ2 HX2 HR2 HK2 HD2 hE3 HQ3 HX3 HR3 HK3 HD3 hE33 HQ33 HX33 HR33 HK33 HD33
  have HSX := hid (show CS W5 W5.heap.size (M.wid f G WW L) VW At VL nw cW nt ct nr cL from ⟨sl_own (by decide) (rgc_len _) (by omega) HR4.out, (HCS.out.ev hE5).t, sl_own (by decide) (rdc_len _) (by omega) HK4.out⟩)
  have HRY := hid (fun W (hE : Ev W5 W) => readyW_c f G WW L VW At VL nw cW nt ct nr cL hl0 W (fun _ => HSX.out.ev hE))
  clear HR4 HK4
  obtain ⟨q0, q1, q2, q3, q4, q5, q6, q7, q8, q9⟩ := cells10 HQ5.out
  go_upto_region 15 with fail
  cases hrx : M.rdy (M.wid f G WW L) nw nt nr with
  | false =>
   rw [hrx] at HRY
   clear hrx
   go_wp2_with (first | (go_at_call 50; with_reducible refine (HRY.out _ (Ev.refl _)).mono ?_; rintro e w6 ⟨rfl, hb6⟩) | (go_at_call 19; with_reducible refine (awake_c _).mono ?_; rintro e w99 ⟨rfl, hb99⟩) | (with_reducible refine ⟨trivial, ?_⟩))
   go_ret
   exact ⟨rfl, (hE5.trans hb6).trans hb99⟩
  | true =>
   rw [hrx] at HRY
   have h0x : M.check (M.wid f G WW L) = 0 := by unfold M.rdy at hrx; rw [Bool.and_eq_true, Bool.and_eq_true, decide_eq_true_eq, decide_eq_true_eq] at hrx; exact hrx.2
   clear hrx
   have hlen : f.rds.length = nr := HCS.out.r.len
   have hfl : f.wet.length = nw := HCS.out.w_.len
   have hl5 : nr ≤ 5 := by rw [← hlen]; exact (M.check0 h0).2.1
   have hl00 := (M.valid_parts hv).2.2.2.2.1
   have hnl : (nw : Int) = f.last + 1 := by omega
   have hnw10 : nw ≤ 10 := by omega
   have HM := hid (HD4.out.leave h0 h0x hlen)
   have HN := hid (fun h => M.leave_nil h0 hlen h)
   have HM7 := hid (show (M.shortest (M.spares f) nr).length ≤ 7 from by obtain ⟨_, _, _, _, h7, _⟩ := M.leave_spec h0 hlen; exact h7)
   have HLF := hid (fun (Bw : Option Addr) (dw : Nat) (Bt : Option Addr) (dt : Nat) (Br : Option Addr) (dr : Nat) W (h : CS W W.heap.size f Bw Bt Br nw dw nt dt nr dr) => LeaveM0_ok f Bw Bt Br nw dw nt dt nr dr hl0 W h h0)
   have HLX := hid (fun (Bw : Option Addr) (dw : Nat) (Bt : Option Addr) (dt : Nat) (Br : Option Addr) (dr : Nat) W (h : CS W W.heap.size (M.wid f G WW L) Bw Bt Br nw dw nt dt nr dr) => LeaveW_ok f G WW L Bw Bt Br nw dw nt dt nr dr hl0 W h h0x)
   have HHF := hid (fun W (h : CS W W.heap.size f Aw At Ar nw cw nt ct nr cr) => Heap_c f Aw At Ar nw cw nt ct nr cr (by omega) (by omega) (by omega) W h)
   have HHX := hid (fun W (h : CS W W.heap.size (M.wid f G WW L) VW At VL nw cW nt ct nr cL) => HeapW_c f G WW L VW At VL nw cW nt ct nr cL (by omega) (by omega) (by omega) W h)
   have hpl := M.trn_ok hv c
   have HTU := hid (fun W => turned_c f Aw At Ar nw cw nt ct nr cr hv hl9 c hc W)
   have hpnl := M.trn_len f c
   obtain ⟨plan, hplan⟩ : ∃ p, M.trn f c = p := ⟨_, rfl⟩
   obtain ⟨pn, hpn⟩ : ∃ p, plan.length = p := ⟨_, rfl⟩
   rw [hplan, hpn] at HTU
   rw [hplan] at hpl hpnl
   rw [hpn] at hpnl
   clear hplan
   have HPL := hid hpl
   clear hpl hlen
   generalize M.shortest (M.spares f) nr = sf at HLF HM HM7 HN
   generalize M.shortest (M.spares (M.wid f G WW L)) nr = sx at HLX HM
   go_upto_region 17 with (first | (go_at_call 50; with_reducible refine (HRY.out _ (Ev.refl _)).mono ?_; rintro e x0 ⟨rfl, hb7⟩; have HP0 := hid hb7; clear hb7; clear y0 y1 y2 y3 y4 y5 y6 y7 y8 y9; clear q0 q1 q2 q3 q4 q5 q6 q7 q8 q9; obtain ⟨y0, y1, y2, y3, y4, y5, y6, y7, y8, y9⟩ := cells10 (HP0.out.heap HX5.out); obtain ⟨q0, q1, q2, q3, q4, q5, q6, q7, q8, q9⟩ := cells10 (HP0.out.heap HQ5.out)) | (with_reducible refine ⟨trivial, ?_⟩))
   go_upto_region 18 with (first | (go_at_call 21; with_reducible refine (HHF.out _ (HCS.out.ev (hE5.trans HP0.out))).mono ?_; rintro e x1 ⟨⟨Bw1, dw1, Bt1, dt1, Br1, dr1, rfl, hc⟩, hb⟩; have HP1 := hid (HP0.out.trans hb); have HC1 := hid hc; clear hc hb) | (go_at_call 41; with_reducible refine (HLF.out Bw1 dw1 Bt1 dt1 Br1 dr1 _ HC1.out).mono ?_; rintro e x2 ⟨⟨LB2, ld2, rfl⟩, hb⟩; have HP2 := hid (HP1.out.trans hb); clear hb; clear y0 y1 y2 y3 y4 y5 y6 y7 y8 y9; clear q0 q1 q2 q3 q4 q5 q6 q7 q8 q9; obtain ⟨y0, y1, y2, y3, y4, y5, y6, y7, y8, y9⟩ := cells10 (HP2.out.heap HX5.out); obtain ⟨q0, q1, q2, q3, q4, q5, q6, q7, q8, q9⟩ := cells10 (HP2.out.heap HQ5.out)))
   go_upto_region 19 with (first | (go_at_call 21; with_reducible refine (HHX.out _ (HSX.out.ev HP2.out)).mono ?_; rintro e x3 ⟨⟨Bw3, dw3, Bt3, dt3, Br3, dr3, rfl, hc⟩, hb⟩; have HP3 := hid (HP2.out.trans hb); have HC3 := hid hc; clear hc hb) | (go_at_call 41; with_reducible refine (HLX.out Bw3 dw3 Bt3 dt3 Br3 dr3 _ HC3.out).mono ?_; rintro e x4 ⟨⟨LB4, ld4, rfl⟩, hb⟩; have HP4 := hid (HP3.out.trans hb); clear hb; clear y0 y1 y2 y3 y4 y5 y6 y7 y8 y9; clear q0 q1 q2 q3 q4 q5 q6 q7 q8 q9; obtain ⟨y0, y1, y2, y3, y4, y5, y6, y7, y8, y9⟩ := cells10 (HP4.out.heap HX5.out); obtain ⟨q0, q1, q2, q3, q4, q5, q6, q7, q8, q9⟩ := cells10 (HP4.out.heap HQ5.out)))
   have hm1 := HM.out
   have hm7 := HM7.out
   have g3 : ¬ ((sx.length : Int) > sf.length) := by omega
   have g3' : ¬ ((sf.length : Int) < sx.length) := by omega
   clear HRD HRY HC1 HC3
   by_cases hm0 : 0 < sf.length
   ·
    have g4 : (0 : Int) < sf.length := by omega
    go_wp2_with (first | (go_at_call 19; with_reducible refine (awake_c _).mono ?_; rintro e w99 ⟨rfl, hb99⟩) | (with_reducible refine ⟨trivial, ?_⟩))
    go_ret
    exact ⟨rfl, (hE5.trans HP4.out).trans hb99⟩
   ·
    have g4 : ¬ ((0 : Int) < sf.length) := by omega
    have htf : M.truths f ≠ [] := HN.out (by omega)
    have htx : M.truths (M.wid f G WW L) ≠ [] := fun e => by
     cases ht : M.truths f with
     | nil => exact htf ht
     | cons t r => have := HD4.out.truths t (by rw [ht]; simp); rw [e] at this; cases this
    have hbf := M.begin_is h0 HPL.out htf
    have hbx := M.begin_is h0x (show M.isTurns (M.wid f G WW L) plan = true from HPL.out) htx
    have hbf1 := M.begin_is (nm := true) h0 rfl htf
    have hbx1 := M.begin_is (nm := true) h0x rfl htx
    have HBF := hid (fun (Bw : Option Addr) (dw : Nat) (Bt : Option Addr) (dt : Nat) (Br : Option Addr) (dr : Nat) (Lx : Option Addr) (d : Nat) W (h : CS W W.heap.size f Bw Bt Br nw dw nt dt nr dr) (h3 : Sl ics 1 W W.heap.size Lx pn d plan) => Bounds0_ok f Bw Bt Br nw dw nt dt nr dr Lx pn d plan hl0 W h h3 hbf)
    have HBX := hid (fun (Bw : Option Addr) (dw : Nat) (Bt : Option Addr) (dt : Nat) (Br : Option Addr) (dr : Nat) (Lx : Option Addr) (d : Nat) W (h : CS W W.heap.size (M.wid f G WW L) Bw Bt Br nw dw nt dt nr dr) (h3 : Sl ics 1 W W.heap.size Lx pn d plan) => BoundsW_ok f G WW L Bw Bt Br nw dw nt dt nr dr Lx pn d plan hl0 W h h3 hbx)
    have HNF := hid (fun W (h : CS W W.heap.size f Aw At Ar nw cw nt ct nr cr) => needed_c f Aw At Ar nw cw nt ct nr cr hl0 (by omega) (by omega) hbf1 W h)
    have HNX := hid (fun W (h : CS W W.heap.size (M.wid f G WW L) VW At VL nw cW nt ct nr cL) => neededW_c f G WW L VW At VL nw cW nt ct nr cL hl0 (by omega) (by omega) hbx1 W h)
    have hnar := HD4.out.bounds htf plan
    have hnee := HD4.out.need (by omega)
    have hnb1 := M.need_bd f (M.truths f) (by omega)
    have hnb2 := M.need_bd (M.wid f G WW L) (M.truths (M.wid f G WW L)) (by show WW.length ≤ 10; rw [HD4.out.wl]; omega)
    generalize M.bounds f (M.truths f) plan = bf at HBF hnar
    generalize M.bounds (M.wid f G WW L) (M.truths (M.wid f G WW L)) plan = bx at HBX hnar
    generalize M.need f (M.truths f) = nf at HNF hnee hnb1
    generalize M.need (M.wid f G WW L) (M.truths (M.wid f G WW L)) = nx at HNX hnee hnb2
    have HNAR := hid hnar
    clear HN HM hnar hbf hbx hbf1 hbx1 htx htf HPL HLF HLX HM7 HD4 hfl
    go_upto_region 24 with (first | (go_at_call 52; with_reducible refine (HTU.out _).mono ?_; rintro e x5 ⟨⟨BTN, dTN, rfl, htn⟩, hb⟩; have HT5 := hid (Ev.refl x5); have HP5 := hid (HP4.out.trans hb); have HTN := hid htn; clear hb htn; clear y0 y1 y2 y3 y4 y5 y6 y7 y8 y9; clear q0 q1 q2 q3 q4 q5 q6 q7 q8 q9; obtain ⟨y0, y1, y2, y3, y4, y5, y6, y7, y8, y9⟩ := cells10 (HP5.out.heap HX5.out); obtain ⟨q0, q1, q2, q3, q4, q5, q6, q7, q8, q9⟩ := cells10 (HP5.out.heap HQ5.out)) | (with_reducible refine ⟨trivial, ?_⟩))
    clear hm1 hm7 g3 g3' g4 hm0
    go_upto_region 25 with (first | (go_at_call 21; with_reducible refine (HHF.out _ (HCS.out.ev (hE5.trans HP5.out))).mono ?_; rintro e x6 ⟨⟨Bw6, dw6, Bt6, dt6, Br6, dr6, rfl, hc⟩, hb⟩; have HP6 := hid (HP5.out.trans hb); have HT6 := hid (HT5.out.trans hb); have HC6 := hid hc; clear hc hb) | (go_at_call 23; with_reducible refine (list_c BTN pn dTN plan (by omega) _ (HTN.out.ev HT6.out)).mono ?_; rintro e x7 ⟨⟨L7, D7, rfl, ho⟩, hb⟩; have HP7 := hid (HP6.out.trans hb); have HT7 := hid (HT6.out.trans hb); have HO7 := hid (sl_own (enc := ics) (by decide) (ics_len _) (by omega) ho); have HC7 := hid (HC6.out.ev hb); clear ho hb) | (go_at_call 31; with_reducible refine (HBF.out Bw6 dw6 Bt6 dt6 Br6 dr6 L7 D7 _ HC7.out HO7.out).mono ?_; rintro e x8 ⟨⟨BB8, bd8, rfl, hc⟩, hb⟩; have HP8 := hid (HP7.out.trans hb); have HT8 := hid (HT7.out.trans hb); have HA8 := hid (Ev.refl x8); have HV8 := hid hc; clear hc hb; clear y0 y1 y2 y3 y4 y5 y6 y7 y8 y9; clear q0 q1 q2 q3 q4 q5 q6 q7 q8 q9; obtain ⟨y0, y1, y2, y3, y4, y5, y6, y7, y8, y9⟩ := cells10 (HP8.out.heap HX5.out); obtain ⟨q0, q1, q2, q3, q4, q5, q6, q7, q8, q9⟩ := cells10 (HP8.out.heap HQ5.out)))
    go_upto_region 26 with (first | (go_at_call 21; with_reducible refine (HHX.out _ (HSX.out.ev HP8.out)).mono ?_; rintro e x9 ⟨⟨Bw9, dw9, Bt9, dt9, Br9, dr9, rfl, hc⟩, hb⟩; have HP9 := hid (HP8.out.trans hb); have HT9 := hid (HT8.out.trans hb); have HA9 := hid (HA8.out.trans hb); have HC9 := hid hc; clear hc hb) | (go_at_call 23; with_reducible refine (list_c BTN pn dTN plan (by omega) _ (HTN.out.ev HT9.out)).mono ?_; rintro e x10 ⟨⟨L10, D10, rfl, ho⟩, hb⟩; have HP10 := hid (HP9.out.trans hb); have HT10 := hid (HT9.out.trans hb); have HA10 := hid (HA9.out.trans hb); have HO10 := hid (sl_own (enc := ics) (by decide) (ics_len _) (by omega) ho); have HC10 := hid (HC9.out.ev hb); clear ho hb) | (go_at_call 31; with_reducible refine (HBX.out Bw9 dw9 Bt9 dt9 Br9 dr9 L10 D10 _ HC10.out HO10.out).mono ?_; rintro e x11 ⟨⟨BB11, bd11, rfl, hc⟩, hb⟩; have HP11 := hid (HP10.out.trans hb); have HT11 := hid (HT10.out.trans hb); have HA11 := hid (HA10.out.trans hb); have HB11 := hid (Ev.refl x11); have HV11 := hid hc; clear hc hb; clear y0 y1 y2 y3 y4 y5 y6 y7 y8 y9; clear q0 q1 q2 q3 q4 q5 q6 q7 q8 q9; obtain ⟨y0, y1, y2, y3, y4, y5, y6, y7, y8, y9⟩ := cells10 (HP11.out.heap HX5.out); obtain ⟨q0, q1, q2, q3, q4, q5, q6, q7, q8, q9⟩ := cells10 (HP11.out.heap HQ5.out)))
    have l0 := heap_lt (HP11.out.heap HQ5.out)
    have l1 := heap_lt (HP11.out.heap HX5.out)
    have HSE : Hid (∀ w', Ev x11 w' → (∀ o, w'.cell? ⟨w.heap.size, o, none⟩ = x11.cell? ⟨w.heap.size, o, none⟩) ∧ (∀ o, w'.cell? ⟨p, o, none⟩ = x11.cell? ⟨p, o, none⟩)) := hid (fun w' h => ⟨fun o => h.cells.1 _ o l0, fun o => h.cells.1 _ o l1⟩)
    go_cut [24, 25] (fun v1 v2 W => v1 = .int .i64 nf ∧ v2 = .int .i64 nx ∧ Ev x11 W)
    case first =>
     refine wp_region_held_drew (S := fun w' => (∀ o, w'.cell? ⟨w.heap.size, o, none⟩ = x11.cell? ⟨w.heap.size, o, none⟩) ∧ (∀ o, w'.cell? ⟨p, o, none⟩ = x11.cell? ⟨p, o, none⟩)) (by kernel_rfl) (⟨fun o => rfl, fun o => rfl⟩) (fun hHeld => ?_)
     refine tkH 0 (some 179) ?_
     (try simp only [Act.put, sA, sB, sC])
     refine tkH 2 (some 181) ?_
     (try simp only [Act.put, sA, sB, sC])
     refine wpAnyH_one (i := 1) rfl (by kernel_rfl) (by rfl) (fun K hK => ?_)
     go_simp
     refine (HNF.out _ (HCS.out.ev (hE5.trans (HP11.out.trans (Ev.drew (Ev.refl _)))))).mono ?_
     rintro e z1 ⟨rfl, hb1⟩
     have hy1 : Ev x11 z1 := Ev.trans (Ev.drew (Ev.refl _)) hb1
     refine hK.out _ _ (HSE.out _ hy1) (fun hHeld => ?_)
     clear hK K
     (try simp only [Act.put, sA, sB, sC])
     refine wpAnyH_one (i := 3) rfl (by kernel_rfl) (by rfl) (fun K hK => ?_)
     go_simp
     refine (HNX.out _ (HSX.out.ev (HP11.out.trans hy1))).mono ?_
     rintro e z3 ⟨rfl, hb3⟩
     have hy3 : Ev x11 z3 := Ev.trans hy1 hb3
     refine hK.out _ _ (HSE.out _ hy3) (fun hHeld => ?_)
     clear hK K
     (try simp only [Act.put, sA, sB, sC])
     refine tkH 4 (some 24) ?_
     (try simp only [Act.put, sA, sB, sC])
     refine tkH 5 (some 25) ?_
     (try simp only [Act.put, sA, sB, sC])
     refine wpAnyH_done (by kernel_rfl) ?_ _
     go_wp2_with fail
     go_meet
     exact ⟨rfl, rfl, hy3⟩
    case rest =>
     clear y0 y1 y2 y3 y4 y5 y6 y7 y8 y9
     clear q0 q1 q2 q3 q4 q5 q6 q7 q8 q9
     clear HSE l0 l1 HNF HNX HBF HBX HHF HHX HTU
     obtain ⟨rfl, rfl, hc⟩ := hcut
     obtain ⟨x12, hx12⟩ : ∃ x, x = wc := ⟨_, rfl⟩
     subst hx12
     have HP12 := hid (HP11.out.trans hc)
     have HA12 := hid (HA11.out.trans hc)
     have HB12 := hid (HB11.out.trans hc)
     have HIN := hid (fun W (hA : Ev x8 W) (hB : Ev x11 W) => narrower_t BB8 BB11 nw bd8 nw bd11 bf bx HNAR.out W (HV8.out.ev hA) (HV11.out.ev hB))
     have j1 : nf ≥ 0 := hnb1.1
     have j2 : nx ≥ nf := hnee
     clear hc hnb1 hnb2 hnee
     go_wp2_with (first | (go_at_call 59; with_reducible refine (HIN.out _ HA12.out HB12.out).mono ?_; rintro e x13 ⟨rfl, hb13⟩) | (go_at_call 19; with_reducible refine (awake_c _).mono ?_; rintro e w99 ⟨rfl, hb99⟩) | (with_reducible refine ⟨trivial, ?_⟩))
     go_ret
     exact ⟨rfl, ((hE5.trans HP12.out).trans hb13).trans hb99⟩

theorem couchWider_c (f : M.Cf) (Aw At Ar : Option Addr) (nw cw nt ct nr cr : Nat) (hl0 : -9223372036854775808 ≤ f.last) (a b : Int) (a0 : 0 ≤ a) (a1 : a < 256) (b0 : 0 ≤ b) (b1 : b < 256) (c : Nat) (hc : c < 65536) (w : World) (hs : M.small nw nt nr → CS w w.heap.size f Aw At Ar nw cw nt ct nr cr) :
  Calls Try.prog 14 #[.agg #[.int .i64 f.last, .int .i64 f.size, .int .i64 f.cool, .int .i64 f.die, .int .i64 f.burn, .int .i64 f.st.lo, .int .i64 f.st.hi, .slice Aw nw cw, .slice At nt ct, .slice Ar nr cr], .int .u8 a, .int .u8 b, .int .u16 (c : Int)] w fun e w' => e = .returned (.bool true) ∧ Ev w w' := by
 cases hr : M.rdy f nw nt nr with
 | false => exact couchWider_no f Aw At Ar nw cw nt ct nr cr hl0 a b a0 a1 b0 b1 c hc w hs hr
 | true =>
  have h1 := hr
  unfold M.rdy at h1
  rw [Bool.and_eq_true, Bool.and_eq_true, decide_eq_true_eq, decide_eq_true_eq] at h1
  obtain ⟨⟨hsm, _⟩, h0⟩ := h1
  exact couchWider_yes f Aw At Ar nw cw nt ct nr cr hl0 a b a0 a1 b0 b1 c hc w (hid (hs hsm)) hr hsm h0

theorem couchWider_i (f : M.Cf) (Aw At Ar : Option Addr) (nw cw nt ct nr cr : Nat) (hl0 : -9223372036854775808 ≤ f.last) (a : Int) (a0 : 0 ≤ a) (a1 : a < 256) (b : Int) (b0 : 0 ≤ b) (b1 : b < 256) (c : Int) (c0 : 0 ≤ c) (c1 : c < 65536) (w : World) (hs : M.small nw nt nr → CS w w.heap.size f Aw At Ar nw cw nt ct nr cr) :
  Calls Try.prog 14 #[.agg #[.int .i64 f.last, .int .i64 f.size, .int .i64 f.cool, .int .i64 f.die, .int .i64 f.burn, .int .i64 f.st.lo, .int .i64 f.st.hi, .slice Aw nw cw, .slice At nt ct, .slice Ar nr cr], .int .u8 a, .int .u8 b, .int .u16 c] w fun e w' => e = .returned (.bool true) ∧ Ev w w' := by
 obtain ⟨n, rfl⟩ : ∃ n : Nat, c = n := ⟨c.toNat, by omega⟩
 exact couchWider_c f Aw At Ar nw cw nt ct nr cr hl0 a b a0 a1 b0 b1 n (by omega) w hs

end Go.Proofs.Ytgimcephbeajlaa
