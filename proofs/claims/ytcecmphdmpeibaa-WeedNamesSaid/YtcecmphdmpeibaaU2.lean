/- Contracts of package weed's functions, joined; see each part's theorems. -/
import Derived.Test.YtcecmphdmpeibaaU1
import Derived.Maps.AppendAt
import Derived.RangeFuncNested
import Derived.RangeFuncBound
import Derived.RangeFuncCalls
import Derived.RangeFuncLeaves
import Derived.Shelf.Abstract
import Derived.Shelf.RegionOpen
import Derived.OwnWalkIn
import Derived.TacticsInMore
import Derived.LoopNIn
import Derived.LoopIn
import Derived.Laws.EntriesVeiled
import Derived.Scope
import Derived.WalkMore

set_option linter.unusedSimpArgs false
set_option linter.unusedVariables false
namespace Go.Proofs.Ytcecmphdmpeibaa
open Go.RowKit

def wcells (f : M.Fl) (s t u : Value) : Array Value := #[.int .i64 f.rows, .int .i64 f.wds, .int .i64 f.lf.lo, .int .i64 f.lf.hi, s, t, u]

/-- Block p is a field at work: with its truths and faults. -/
structure Wk (w : World) (p : Nat) (f : M.Fl) (ts : List (List Int)) (fs : List (List Bool)) (A A1 A2 : Option Addr) (n c n1 c1 n2 c2 : Nat) : Prop where
  blk : w.heap[p]? = some (.cells (wcells f (.slice A n c) (.slice A1 n1 c1) (.slice A2 n2 c2)) 127 (0, 0))
  tal : Sl tcs 5 w w.heap.size A n c f.ts
  tru : Sl scs 7 w w.heap.size A1 n1 c1 ts
  fau : Sl fcs 5 w w.heap.size A2 n2 c2 fs
  t7 : ∀ x ∈ ts, x.length = 7
  f5 : ∀ x ∈ fs, x.length = 5
  r1 : 1 ≤ f.rows
  r7 : f.rows ≤ 7
  d1 : 1 ≤ f.wds
  d3 : f.wds ≤ 3

theorem Wk.ev {w w' : World} {p : Nat} {f : M.Fl} {ts : List (List Int)} {fs : List (List Bool)} {A A1 A2 : Option Addr} {n c n1 c1 n2 c2 : Nat} (h : Wk w p f ts fs A A1 A2 n c n1 c1 n2 c2) (he : Ev w w') : Wk w' p f ts fs A A1 A2 n c n1 c1 n2 c2 :=
  ⟨he.heap h.blk, h.tal.ev he, h.tru.ev he, h.fau.ev he, h.t7, h.f5, h.r1, h.r7, h.d1, h.d3⟩

theorem cells3 {W : World} {b : Nat} {t : TypeId} {v0 v1 v2 : Value} (h : W.heap[b]? = some (.cells #[v0, v1, v2] t (0, 0))) :
    W.cell? ⟨b, 0, none⟩ = some v0 ∧ W.cell? ⟨b, 1, none⟩ = some v1 ∧ W.cell? ⟨b, 2, none⟩ = some v2 :=
  ⟨cell_in h 0, cell_in h 1, cell_in h 2⟩

/-- The value of an asking. -/
def askv (p : Nat) (x : Int) (m : Value) : Value := .agg #[.pointer (some ⟨p, 0, none⟩), .int .i64 x, m]

def M.number (f : M.Fl) (x : Int) (t : List Int) : Int := M.count t x 0 (f.rows - 1)

set_option maxRecDepth 100000 in
set_option maxHeartbeats 1000000 in
theorem number_c (p : Nat) (x : Int) (mb : Nat) (t : List Int) (ht : t.length = 7) (f : M.Fl) (ts : List (List Int)) (fs : List (List Bool)) (A A1 A2 : Option Addr) (n c n1 c1 n2 c2 : Nat) (w : World) (hw : Wk w p f ts fs A A1 A2 n c n1 c1 n2 c2) :
    Calls Try.prog 111 #[askv p x (.map (some mb)), sv t] w fun e w' => e = .returned (.int .i64 (M.number f x t)) ∧ Ev w w' := by
  obtain ⟨a0, a1, a2, a3, a4, a5, a6, he⟩ := list7 ht
  have hsv : sv t = .agg #[.int .i64 a0, .int .i64 a1, .int .i64 a2, .int .i64 a3, .int .i64 a4, .int .i64 a5, .int .i64 a6] := by rw [he]; rfl
  have hwh : ∀ W, Calls Try.prog 105 #[.agg #[.int .i64 f.rows, .int .i64 f.wds, .int .i64 f.lf.lo, .int .i64 f.lf.hi, .slice A n c], .int .i64 x] W fun e w' => e = .returned (.agg #[.int .i64 x, .int .i64 0, .int .i64 (f.rows - 1)]) ∧ Ev W w' := fun W => whole_c f A n c x W (by have := hw.r1; omega) hw.r7
  have hct : ∀ W, Calls Try.prog 104 #[sv t, .agg #[.int .i64 x, .int .i64 0, .int .i64 (f.rows - 1)]] W fun e w' => e = .returned (.int .i64 (M.count t x 0 (f.rows - 1))) ∧ Ev W w' := fun W => count_c t ht x 0 (f.rows - 1) (by omega) (by have := hw.r1; omega) (by have := hw.r7; omega) W
  rw [hsv] at hct ⊢
  have H1 := hid hwh
  have H2 := hid hct
  have hpl := heap_lt hw.blk
  have HWB := hid hw.blk
  clear hwh hct hsv he hw
  unfold askv
  go_enter Try.func111, Try.ntmps111
  go_wp2
  generalize hW0 : World.alloc (World.alloc w _) _ = W0
  have hE : Ev w W0 := by rw [← hW0]; exact (Ev.alloc (Ev.alloc (Ev.refl _) _) _)
  have hal := alloc2 w (.cells #[.pointer (some ⟨p, 0, none⟩), .int .i64 x, .map (some mb)] 116) (.cells #[.int .i64 a0, .int .i64 a1, .int .i64 a2, .int .i64 a3, .int .i64 a4, .int .i64 a5, .int .i64 a6] 101)
  rw [hW0] at hal
  obtain ⟨hq0, hq1, hz⟩ := hal
  obtain ⟨q0, q1, q2⟩ := cells3 hq0
  obtain ⟨s0, s1, s2, s3, s4, s5, s6⟩ := cells7 hq1
  obtain ⟨k0, k1, k2, k3, k4, k5, k6⟩ := cells7 (hE.heap HWB.out)
  have HSE : Hid (∀ w', Ev W0 w' → Ev W0 w' ∧ (∀ b o, b < w.heap.size + 2 → w'.cell? ⟨b, o, none⟩ = W0.cell? ⟨b, o, none⟩)) := hid (fun w' h => ⟨h, fun b o hb => h.cells.1 b o (by omega)⟩)
  have hpl2 : p < w.heap.size + 2 := by omega
  clear hz hW0 hq0 hq1
  go_region_held3 (fun w' => Ev W0 w' ∧ (∀ b o, b < w.heap.size + 2 → w'.cell? ⟨b, o, none⟩ = W0.cell? ⟨b, o, none⟩)) (exact HSE.out _ (by repeat (first | exact Ev.refl W0 | (go_split_ands; assumption) | refine Ev.drew ?_ | refine Ev.alloc ?_ _ | refine Ev.trans ?_ (by assumption)))) (first | (go_at_call 105; with_reducible refine (H1.out _).mono ?_; rintro e w1 ⟨rfl, hb1⟩) | (go_at_call 104; with_reducible refine (H2.out _).mono ?_; rintro e w1 ⟨rfl, hb2⟩))
  go_wp2
  go_ret
  refine ⟨rfl, ?_⟩
  go_split_ands
  exact hE.trans (by assumption)

end Go.Proofs.Ytcecmphdmpeibaa

namespace Go.Proofs.Ytcecmphdmpeibaa
open Go.RowKit

theorem Sl.at7 {w : World} {B : Nat} {A : Option Addr} {n c : Nat} {xs : List (List Int)} (h : Sl scs 7 w B A n c xs) {k : Nat} (hk : k < n) (h7 : ∀ x ∈ xs, x.length = 7) :
    ∃ b off b0 b1 b2 b3 b4 b5 b6, A = some ⟨b, off, none⟩ ∧ b < B ∧ xs[k]? = some [b0, b1, b2, b3, b4, b5, b6] ∧ w.cell? ⟨b, off + k * 7, none⟩ = some (.int .i64 b0) ∧ w.cell? ⟨b, off + k * 7 + 1, none⟩ = some (.int .i64 b1) ∧ w.cell? ⟨b, off + k * 7 + 2, none⟩ = some (.int .i64 b2) ∧ w.cell? ⟨b, off + k * 7 + 3, none⟩ = some (.int .i64 b3) ∧ w.cell? ⟨b, off + k * 7 + 4, none⟩ = some (.int .i64 b4) ∧ w.cell? ⟨b, off + k * 7 + 5, none⟩ = some (.int .i64 b5) ∧ w.cell? ⟨b, off + k * 7 + 6, none⟩ = some (.int .i64 b6) := by
  obtain ⟨b, off, x, hA, hlt, hx, hd, hc⟩ := h.at_ (Below.refl _ _) hk
  obtain ⟨b0, b1, b2, b3, b4, b5, b6, hxx⟩ := list7 (h7 x (List.mem_of_getElem? hx))
  subst hxx
  exact ⟨b, off, b0, b1, b2, b3, b4, b5, b6, hA, hlt, hx, by simpa using hc 0 _ rfl, hc 1 _ rfl, hc 2 _ rfl, hc 3 _ rfl, hc 4 _ rfl, hc 5 _ rfl, hc 6 _ rfl⟩

set_option maxRecDepth 100000 in
set_option maxHeartbeats 1000000 in
theorem known1_c (p : Nat) (x : Int) (mb pa pt : Nat) (t x0 : List Int) (xs : List (List Int)) (ht : t.length = 7) (h7 : ∀ x ∈ x0 :: xs, x.length = 7) (B : Option Addr) (m d : Nat) (f : M.Fl) (ts : List (List Int)) (fs : List (List Bool)) (A A1 A2 : Option Addr) (n c n1 c1 n2 c2 : Nat) (w : World) (hw : Wk w p f ts fs A A1 A2 n c n1 c1 n2 c2)
    (ha : w.heap[pa]? = some (.cells #[.pointer (some ⟨p, 0, none⟩), .int .i64 x, .map (some mb)] 116 (0, 0))) (hb : w.heap[pt]? = some (.cells #[.slice B m d] 124 (0, 0))) (hs : Sl scs 7 w w.heap.size B m d (x0 :: xs)) :
    Calls Try.prog 114 #[sv t, .pointer (some ⟨pa, 0, none⟩), .pointer (some ⟨pt, 0, none⟩)] w fun e w' => e = .returned (.bool (M.number f x t == M.number f x x0)) ∧ Ev w w' := by
  have hm : 0 < m := by have := hs.len; simp at this; omega
  have hx07 := h7 x0 (by simp)
  obtain ⟨b, off, b0, b1, b2, b3, b4, b5, b6, rfl, hbl, hx0, y0, y1, y2, y3, y4, y5, y6⟩ := hs.at7 hm h7
  simp only [Nat.zero_mul, Nat.add_zero] at y0 y1 y2 y3 y4 y5 y6
  have hx0' : x0 = [b0, b1, b2, b3, b4, b5, b6] := by simpa using hx0
  have hn1 : ∀ W, Ev w W → Calls Try.prog 111 #[askv p x (.map (some mb)), sv t] W fun e w' => e = .returned (.int .i64 (M.number f x t)) ∧ Ev W w' := fun W hE => number_c p x mb t ht f ts fs A A1 A2 n c n1 c1 n2 c2 W (hw.ev hE)
  have hn2 : ∀ W, Ev w W → Calls Try.prog 111 #[askv p x (.map (some mb)), sv x0] W fun e w' => e = .returned (.int .i64 (M.number f x x0)) ∧ Ev W w' := fun W hE => number_c p x mb x0 hx07 f ts fs A A1 A2 n c n1 c1 n2 c2 W (hw.ev hE)
  obtain ⟨a0, a1, a2, a3, a4, a5, a6, he⟩ := list7 ht
  have hsv : sv t = .agg #[.int .i64 a0, .int .i64 a1, .int .i64 a2, .int .i64 a3, .int .i64 a4, .int .i64 a5, .int .i64 a6] := by rw [he]; rfl
  have hsv0 : sv x0 = .agg #[.int .i64 b0, .int .i64 b1, .int .i64 b2, .int .i64 b3, .int .i64 b4, .int .i64 b5, .int .i64 b6] := by rw [hx0']; rfl
  rw [hsv] at hn1 ⊢
  rw [hsv0] at hn2
  unfold askv at hn1 hn2
  have H1 := hid hn1
  have H2 := hid hn2
  have hpal := heap_lt ha
  have hptl := heap_lt hb
  have HA := hid ha
  have HB := hid hb
  have Y := hid (And.intro y0 (And.intro y1 (And.intro y2 (And.intro y3 (And.intro y4 (And.intro y5 y6))))))
  clear hn1 hn2 hsv hsv0 he hw hx0 hx0' y0 y1 y2 y3 y4 y5 y6 ha hb hx07
  go_enter Try.func114, Try.ntmps114
  go_wp2
  generalize hW0 : World.alloc w _ = W0
  have hE : Ev w W0 := by rw [← hW0]; exact (Ev.alloc (Ev.refl _) _)
  have hal := alloc1 w (.cells #[.int .i64 a0, .int .i64 a1, .int .i64 a2, .int .i64 a3, .int .i64 a4, .int .i64 a5, .int .i64 a6] 101)
  rw [hW0] at hal
  obtain ⟨hq1, hz⟩ := hal
  obtain ⟨q0, q1, q2⟩ := cells3 (hE.heap HA.out)
  have r0 : W0.cell? ⟨pt, 0, none⟩ = some (.slice (some ⟨b, off, none⟩) m d) := cell_in (hE.heap HB.out) 0
  obtain ⟨s0, s1, s2, s3, s4, s5, s6⟩ := cells7 hq1
  obtain ⟨y0, y1, y2, y3, y4, y5, y6⟩ := Y.out
  have hcc := hE.cells.1
  have y0 := (hcc b _ hbl).trans y0
  have y1 := (hcc b _ hbl).trans y1
  have y2 := (hcc b _ hbl).trans y2
  have y3 := (hcc b _ hbl).trans y3
  have y4 := (hcc b _ hbl).trans y4
  have y5 := (hcc b _ hbl).trans y5
  have y6 := (hcc b _ hbl).trans y6
  have HSE : Hid (∀ w', Ev W0 w' → Ev W0 w' ∧ (∀ b o, b < w.heap.size + 1 → w'.cell? ⟨b, o, none⟩ = W0.cell? ⟨b, o, none⟩)) := hid (fun w' h => ⟨h, fun b o hb => h.cells.1 b o (by omega)⟩)
  have l1 : pa < w.heap.size + 1 := by omega
  have l2 : pt < w.heap.size + 1 := by omega
  have l3 : b < w.heap.size + 1 := by omega
  have m0 : (0 : Int) < (m : Int) := by omega
  clear hz hW0 hq1 hcc
  go_region_held3 (fun w' => Ev W0 w' ∧ (∀ b o, b < w.heap.size + 1 → w'.cell? ⟨b, o, none⟩ = W0.cell? ⟨b, o, none⟩)) (exact HSE.out _ (by repeat (first | exact Ev.refl W0 | (go_split_ands; assumption) | refine Ev.drew ?_ | refine Ev.alloc ?_ _ | refine Ev.trans ?_ (by assumption)))) (first | (go_at_call 111; with_reducible refine (H1.out _ ?_).mono ?_; (go_split_ands; exact hE.trans (by assumption)); rintro e w1 ⟨rfl, hb1⟩) | (go_at_call 111; with_reducible refine (H2.out _ ?_).mono ?_; (go_split_ands; exact hE.trans (by first | assumption | exact Ev.trans (Ev.drew (Ev.refl _)) (by assumption))); rintro e w1 ⟨rfl, hb2⟩))
  go_wp2
  go_ret
  refine ⟨rfl, ?_⟩
  go_split_ands
  exact hE.trans (by assumption)

end Go.Proofs.Ytcecmphdmpeibaa

namespace Go.Proofs.Ytcecmphdmpeibaa
open Go.RowKit

theorem flat_len {α β : Type} (enc : α → List β) (sz : Nat) : ∀ (xs : List α), (∀ x ∈ xs, (enc x).length = sz) → (xs.flatMap enc).length = xs.length * sz
  | [], _ => by simp
  | x :: r, h => by
    rw [List.flatMap_cons, List.length_append, h x (by simp), flat_len enc sz r (fun y hy => h y (by simp [hy])), List.length_cons, Nat.succ_mul, Nat.add_comm]

theorem flat_get {α β : Type} (enc : α → List β) (sz : Nat) : ∀ (xs : List α) (_ : ∀ x ∈ xs, (enc x).length = sz) (k : Nat) (x : α) (_ : xs[k]? = some x) (j : Nat) (v : β) (_ : (enc x)[j]? = some v), (xs.flatMap enc)[k * sz + j]? = some v
  | [], _, _, _, hx, _, _, _ => by simp at hx
  | y :: r, h, 0, x, hx, j, v, hj => by
    obtain rfl : y = x := by simpa using hx
    have hlt : j < (enc y).length := (List.getElem?_eq_some_iff.1 hj).1
    rw [List.flatMap_cons, Nat.zero_mul, Nat.zero_add, List.getElem?_append_left hlt]
    exact hj
  | y :: r, h, k + 1, x, hx, j, v, hj => by
    have hl := h y (by simp)
    rw [List.flatMap_cons, List.getElem?_append_right (by rw [hl, Nat.succ_mul]; omega), hl, show (k + 1) * sz + j - sz = k * sz + j from by rw [Nat.succ_mul]; omega]
    exact flat_get enc sz r (fun z hz => h z (by simp [hz])) k x (by simpa using hx) j v hj

theorem Sl.of_own {α : Type} {enc : α → List Value} {sz : Nat} {w : World} {base : Nat} {e : TypeId} {v : Value} {n : Nat} {xs : List α} (hsz : 0 < sz) (henc : ∀ x ∈ xs, (enc x).length = sz) (hsm : n ≤ 1099511627776)
    (h : w.ownsRow base e sz v n (xs.flatMap enc)) : ∃ A c, v = .slice A n c ∧ Sl enc sz w w.heap.size A n c xs := by
  have hl : xs.length = n := by
    have h1 := h.1
    rw [flat_len enc sz xs henc] at h1
    exact Nat.eq_of_mul_eq_mul_right hsz h1
  rcases h.2 with ⟨rfl, rfl⟩ | ⟨g, cap, cur, rfl, hbg, hgb, hcap, hmax, hcs, htk⟩
  · exact ⟨none, 0, rfl, hl, by omega, by omega, fun h => by omega⟩
  · refine ⟨_, cap, rfl, hl, hcap, hsm, fun _ => ⟨g, 0, rfl, (Array.getElem?_eq_some_iff.1 hgb).1, fun k x hk j u hj => ?_⟩⟩
    have h2 := h.cells (g := g) rfl (k * sz + j) u (flat_get enc sz xs henc k x hk j u hj)
    rw [Nat.zero_add]
    by_cases h0 : k * sz + j = 0
    · rw [h0] at h2 ⊢; exact h2
    · unfold Addr.add at h2
      rw [if_neg h0] at h2
      simpa using h2

theorem Ev.grown {a b c : World} (h : Ev a b) {row : Option Nat} (hg : b.grownBy c row) (hr : ∀ k, row = some k → a.heap.size ≤ k) : Ev a c :=
  Below.grown h hg h.size hr

theorem info101 : (Try.prog.info? 101).map (fun i => (i.zero, i.size, i.bytes)) = some (some (.agg #[.int .i64 0, .int .i64 0, .int .i64 0, .int .i64 0, .int .i64 0, .int .i64 0, .int .i64 0]), 7, 56) := by kernel_rfl
theorem info3 : (Try.prog.info? 3).map (fun i => (i.zero, i.size, i.bytes)) = some (some (.int .i64 0), 1, 8) := by kernel_rfl
theorem info105 : (Try.prog.info? 105).map (fun i => (i.zero, i.size, i.bytes)) = some (some (.agg #[.bool false, .bool false, .bool false, .bool false, .bool false]), 5, 5) := by kernel_rfl

theorem news_in {w : World} {b : Nat} {cs : Array Value} {t : TypeId} (h : w.heap[b]? = some (.cells cs t (0, 0))) : ∀ (j : Nat) (u : Value), cs.toList[j]? = some u → w.cell? ((⟨b, 0, none⟩ : Addr).add j) = some u := by
  intro j u hj
  have : w.cell? ⟨b, j, none⟩ = some u := by rw [cell_in h j, ← Array.getElem?_toList]; exact hj
  unfold Addr.add
  split
  · rename_i h0; subst h0; exact this
  · simpa using this

def M.agreeing (xs : List (List Int)) (row : Nat) (said : Int) : List (List Int) := xs.filter fun t => t.getD row 0 == said

set_option maxRecDepth 100000 in
set_option maxHeartbeats 2000000 in
theorem agreeing_c (B : Option Addr) (m d : Nat) (xs : List (List Int)) (h7 : ∀ x ∈ xs, x.length = 7) (row : Nat) (said : Int) (hr : row ≤ 6) (w : World) (hs : Sl scs 7 w w.heap.size B m d xs) :
    Calls Try.prog 127 #[.slice B m d, .int .i64 row, .int .i64 said] w fun e w' => (∃ A c, e = .returned (.slice A (M.agreeing xs row said).length c) ∧ Sl scs 7 w' w'.heap.size A (M.agreeing xs row said).length c (M.agreeing xs row said)) ∧ Ev w w' := by
  obtain ⟨i0, hi, hz0, hz1, hz2⟩ := info_parts info101
  have hsm := hs.small
  have hr7 : (row : Int) < 7 := by omega
  go_enter Try.func127, Try.ntmps127
  go_wp2
  go_loopw [7, 12] (fun v i wr => ∃ k : Nat, ∃ ys : List (List Int), i = .int .i64 k ∧ k ≤ m ∧ Ev w wr ∧ wr.ownsRow w.heap.size 101 7 v ys.length (ys.flatMap scs) ∧ ys.length ≤ k ∧ Hid (ys ++ M.agreeing (xs.drop k) row said = M.agreeing xs row said)) (fun _ i _ => m - (intOf i).toNat)
  case atStart => exact ⟨0, [], rfl, by omega, Ev.refl _, World.ownsRow_nil _ _ _ _, by simp, hid rfl⟩
  case round =>
    obtain ⟨k, ys, rfl, hk, hB, hown, hyk, hp⟩ := hrel
    by_cases hlt : k < m
    · obtain ⟨b, off, x, rfl, hb, hx, hd, hcc⟩ := hs.at_ hB hlt
      have hx7 := h7 x (List.mem_of_getElem? hx)
      obtain ⟨b0, b1, b2, b3, b4, b5, b6, hxx⟩ := list7 hx7
      subst hxx
      have e0 := hcc 0 _ rfl
      have e1 := hcc 1 _ rfl
      have e2 := hcc 2 _ rfl
      have e3 := hcc 3 _ rfl
      have e4 := hcc 4 _ rfl
      have e5 := hcc 5 _ rfl
      have e6 := hcc 6 _ rfl
      simp only [Nat.add_zero] at e0
      have H := hid hd
      clear hd hx hcc
      have hyr : ∃ y, [b0, b1, b2, b3, b4, b5, b6][row]? = some y := ⟨_, List.getElem?_eq_getElem (by simp; omega)⟩
      obtain ⟨y, hy⟩ := hyr
      have hcy : (wr.alloc (.cells #[.int .i64 b0, .int .i64 b1, .int .i64 b2, .int .i64 b3, .int .i64 b4, .int .i64 b5, .int .i64 b6] 101)).cell? ⟨wr.heap.size, row, none⟩ = some (.int .i64 y) := by
        rw [cell_in (alloc1 wr _).1 row]
        have : (#[Value.int .i64 b0, .int .i64 b1, .int .i64 b2, .int .i64 b3, .int .i64 b4, .int .i64 b5, .int .i64 b6] : Array Value) = ([b0, b1, b2, b3, b4, b5, b6].map (Value.int .i64)).toArray := rfl
        rw [this]
        simp only [List.getElem?_toArray, List.getElem?_map, hy]
        rfl
      have hgd : [b0, b1, b2, b3, b4, b5, b6].getD row 0 = y := by rw [List.getD_eq_getElem?_getD, hy]; rfl
      have HY := hid hgd
      clear hgd hy
      by_cases hys : y = said
      · have hb : (y == said) = true := by simpa using hys
        have HYS := hid hys
        clear hys
        have hbs := hB.size
        go_wp2_with (at_builtin; refine wpList_append_own _ rfl (.tmp 21) (.tmp 23) 124 rfl w.heap.size 101 i0 _ 7 56 Try.underlying124 hi hz0 hz1 hz2 rfl (by decide) _ ys.length (ys.flatMap scs) rfl ((hown.alloc _).alloc _) ⟨wr.heap.size + 1, 0, none⟩ 1 1 [.int .i64 b0, .int .i64 b1, .int .i64 b2, .int .i64 b3, .int .i64 b4, .int .i64 b5, .int .i64 b6] rfl rfl (news_in (alloc2 wr _ _).2.1) (by simp [Value.oneCell']) (by unfold maxLen; omega) (by omega) (by simp; omega) ?_; intro v' w1 hown' hgrow _)
        have hE1 : Ev w w1 := Ev.grown ((hB.alloc _).alloc _) hgrow (fun k e => (hown.lt k e).1)
        refine ⟨⟨k + 1, ys ++ [[b0, b1, b2, b3, b4, b5, b6]], by go_num, by omega, hE1, ?_, by simp; omega, hid ?_⟩, by simp [intOf]; omega⟩
        · rw [List.flatMap_append, List.length_append]
          exact hown'
        · rw [← hp.out, H.out, List.append_assoc]
          simp only [M.agreeing, List.filter_cons]
          rw [if_pos (by rw [HY.out]; exact hb)]
          rfl
      · have hb : (y == said) = false := by simpa using hys
        have HYS := hid hys
        clear hys
        go_wp2
        refine ⟨⟨k + 1, ys, by go_num, by omega, hB.alloc _, hown.alloc _, by omega, hid ?_⟩, by simp [intOf]; omega⟩
        rw [← hp.out, H.out]
        simp only [M.agreeing, List.filter_cons]
        rw [if_neg (by rw [HY.out, hb]; decide)]
    · have hd := hs.done hlt
      have hp' := hp.out
      rw [hd] at hp'
      have hys : ys = M.agreeing xs row said := by rw [← hp']; simp [M.agreeing]
      have h7' : ∀ x ∈ ys, (scs x).length = 7 := by
        intro x hx
        rw [hys] at hx
        simpa [scs] using h7 x (List.mem_filter.1 hx).1
      obtain ⟨A, c, rfl, hsl⟩ := Sl.of_own (by omega) h7' (by omega) hown
      have HYS := hid hys
      have HSL := hid hsl
      clear hp' hd hys hsl
      go_wp2
      go_ret
      refine ⟨?_, hB⟩
      rw [← HYS.out]
      exact ⟨A, c, rfl, HSL.out⟩

end Go.Proofs.Ytcecmphdmpeibaa

namespace Go.Proofs.Ytcecmphdmpeibaa
open Go.RowKit

def M.known (f : M.Fl) (x : Int) (xs : List (List Int)) : Bool := xs.all fun t => M.number f x t == M.number f x (xs.headD [])

set_option maxRecDepth 100000 in
set_option maxHeartbeats 1000000 in
theorem known_c (p : Nat) (x : Int) (mb : Nat) (xs : List (List Int)) (h7 : ∀ x ∈ xs, x.length = 7) (B : Option Addr) (m d : Nat) (f : M.Fl) (ts : List (List Int)) (fs : List (List Bool)) (A A1 A2 : Option Addr) (n c n1 c1 n2 c2 : Nat) (w : World) (hw : Wk w p f ts fs A A1 A2 n c n1 c1 n2 c2)
    (hs : Sl scs 7 w w.heap.size B m d xs) :
    Calls Try.prog 86 #[askv p x (.map (some mb)), .slice B m d] w fun e w' => e = .returned (.bool (M.known f x xs)) ∧ Ev w w' := by
  have hcall : ∀ W0, Ev w W0 → W0.heap[w.heap.size]? = some (.cells #[.pointer (some ⟨p, 0, none⟩), .int .i64 x, .map (some mb)] 116 (0, 0)) → W0.heap[w.heap.size + 1]? = some (.cells #[.slice B m d] 124 (0, 0)) →
      Calls Try.prog 113 #[.slice B m d, .func (.func 114) #[] #[.pointer (some ⟨w.heap.size, 0, none⟩), .pointer (some ⟨w.heap.size + 1, 0, none⟩)]] W0 fun e w' => e = .returned (.bool (M.known f x xs)) ∧ Ev W0 w' := by
    intro W0 hE hq0 hq1
    refine allS_c B m d 114 [.pointer (some ⟨w.heap.size, 0, none⟩), .pointer (some ⟨w.heap.size + 1, 0, none⟩)] (fun t => M.number f x t == M.number f x (xs.headD [])) xs h7 W0 (hs.ev hE) (fun args w => Try.call114 args w) ?_
    intro t W ht hEW
    match xs, ht, h7, hs with
    | x0 :: r, ht, h7, hs =>
      exact known1_c p x mb w.heap.size (w.heap.size + 1) t x0 r (h7 t ht) h7 B m d f ts fs A A1 A2 n c n1 c1 n2 c2 W (hw.ev (hE.trans hEW)) (hEW.heap hq0) (hEW.heap hq1) (hs.ev (hE.trans hEW))
  have HC := hid hcall
  clear hcall
  unfold askv
  go_enter Try.func86, Try.ntmps86
  go_wp2_with (go_at_call 113; have hal := alloc2 w (.cells #[.pointer (some ⟨p, 0, none⟩), .int .i64 x, .map (some mb)] 116) (.cells #[.slice B m d] 124); with_reducible refine (HC.out _ (Ev.alloc (Ev.alloc (Ev.refl _) _) _) hal.1 hal.2.1).mono ?_; clear hal; rintro e w1 ⟨rfl, hb1⟩)
  go_ret
  exact ⟨rfl, Ev.trans (Ev.alloc (Ev.alloc (Ev.refl _) _) _) hb1⟩

set_option maxRecDepth 100000 in
set_option maxHeartbeats 1000000 in
theorem costs1_c (row : Nat) (hr : row ≤ 6) (pr pt : Nat) (t x0 : List Int) (xs : List (List Int)) (ht : t.length = 7) (h7 : ∀ x ∈ x0 :: xs, x.length = 7) (B : Option Addr) (m d : Nat) (w : World)
    (ha : w.heap[pr]? = some (.cells #[.int .i64 row] 3 (0, 0))) (hb : w.heap[pt]? = some (.cells #[.slice B m d] 124 (0, 0))) (hs : Sl scs 7 w w.heap.size B m d (x0 :: xs)) :
    Calls Try.prog 115 #[sv t, .pointer (some ⟨pr, 0, none⟩), .pointer (some ⟨pt, 0, none⟩)] w fun e w' => e = .returned (.bool (t.getD row 0 == x0.getD row 0)) ∧ Ev w w' := by
  have hm : 0 < m := by have := hs.len; simp at this; omega
  have hx07 := h7 x0 (by simp)
  obtain ⟨b, off, x, rfl, hbl, hx, hd, hcc⟩ := hs.at_ (Below.refl _ w) hm
  obtain rfl : x0 = x := by simpa using hx
  have hy0 : x0[row]? = some (x0[row]'(by omega)) := List.getElem?_eq_getElem _
  generalize x0[row]'(by omega) = y0 at hy0
  have hyc : w.cell? ⟨b, off + row, none⟩ = some (.int .i64 y0) := by
    have := hcc row (.int .i64 y0) (by simp [scs, hy0])
    simpa using this
  have hy : t[row]? = some (t[row]'(by omega)) := List.getElem?_eq_getElem _
  generalize t[row]'(by omega) = y at hy
  have hgy : t.getD row 0 = y := by rw [List.getD_eq_getElem?_getD, hy]; rfl
  have hgy0 : x0.getD row 0 = y0 := by rw [List.getD_eq_getElem?_getD, hy0]; rfl
  obtain ⟨a0, a1, a2, a3, a4, a5, a6, hxe⟩ := list7 ht
  have hsv : sv t = .agg #[.int .i64 a0, .int .i64 a1, .int .i64 a2, .int .i64 a3, .int .i64 a4, .int .i64 a5, .int .i64 a6] := by rw [hxe]; rfl
  have hyt : ∀ W : World, W.heap[w.heap.size]? = some (.cells #[.int .i64 a0, .int .i64 a1, .int .i64 a2, .int .i64 a3, .int .i64 a4, .int .i64 a5, .int .i64 a6] 101 (0, 0)) → W.cell? ⟨w.heap.size, row, none⟩ = some (.int .i64 y) := by
    intro W hW
    rw [cell_in hW row]
    have : (#[Value.int .i64 a0, .int .i64 a1, .int .i64 a2, .int .i64 a3, .int .i64 a4, .int .i64 a5, .int .i64 a6] : Array Value) = (t.map (Value.int .i64)).toArray := by rw [hxe]; rfl
    rw [this]
    simp only [List.getElem?_toArray, List.getElem?_map, hy]
    rfl
  rw [hsv]
  have HYT := hid hyt
  have HG := hid hgy
  have HG0 := hid hgy0
  have h7i : (row : Int) < 7 := by omega
  have hpr := heap_lt ha
  have hpt := heap_lt hb
  have HA := hid ha
  have HB := hid hb
  have HYC := hid hyc
  clear hy hy0 hsv hxe hyt hgy hgy0 ha hb hx hd hcc hyc
  go_enter Try.func115, Try.ntmps115
  go_wp2
  generalize hW0 : World.alloc w _ = W0
  have hE0 : Ev w W0 := by rw [← hW0]; exact Ev.alloc (Ev.refl _) _
  have hq0 := (alloc1 w (.cells #[.int .i64 a0, .int .i64 a1, .int .i64 a2, .int .i64 a3, .int .i64 a4, .int .i64 a5, .int .i64 a6] 101)).1
  rw [hW0] at hq0
  have c0 := HYT.out W0 hq0
  have c1 : W0.cell? ⟨pr, 0, none⟩ = some (.int .i64 row) := cell_in (hE0.heap HA.out) 0
  have c2 : W0.cell? ⟨pt, 0, none⟩ = some (.slice (some ⟨b, off, none⟩) m d) := cell_in (hE0.heap HB.out) 0
  have c3 : W0.cell? ⟨b, off + row, none⟩ = some (.int .i64 y0) := (hE0.cells.1 b _ hbl).trans HYC.out
  have m0 : (0 : Int) < (m : Int) := by omega
  have r0 : (0 : Int) ≤ (row : Int) := by omega
  clear hq0 hW0
  go_quiet (fail)
  go_wp2
  go_ret
  exact ⟨ret_bool (by rw [HG.out, HG0.out]), hE0.drewN _⟩

def M.blank : List Int := [-2, -2, -2, -2, -2, -2, -2]
def M.keep (s : List Int) : List Int → List Int → List Int
  | k, [] => k
  | k, r :: rest => M.keep s (k.set r.toNat (s.getD r.toNat 0)) rest
def M.kept (s rows : List Int) : List Int := M.keep s M.blank rows

theorem M.keep_len (s : List Int) : ∀ (rows k : List Int), (M.keep s k rows).length = k.length
  | [], _ => rfl
  | r :: rest, k => by unfold M.keep; rw [M.keep_len s rest]; simp

set_option maxRecDepth 100000 in
set_option maxHeartbeats 1000000 in
theorem ask_c (p : Nat) (x : Int) (w : World) :
    Calls Try.prog 82 #[.pointer (some ⟨p, 0, none⟩), .int .i64 x] w fun e w' => (∃ mb, e = .returned (askv p x (.map (some mb))) ∧ MapIs Try.prog 101 w' mb (fun _ => none) ∧ w.heap.size ≤ mb) ∧ Ev w w' := by
  have hmm := @run_makeMap Try.prog
  go_enter Try.func82, Try.ntmps82
  go_wp2
  refine bodyPost_ret (v := askv p x (.map (some (w.heap.size + 1)))) (by simp [results, Try.results82, go_sem, askv]) rfl ⟨⟨_, rfl, ⟨#[], 0, (alloc2 w _ _).2.1, by simp, by simp, by simp⟩, by omega⟩, Ev.alloc (Ev.alloc (Ev.refl _) _) _⟩

theorem getD7 {s : List Int} (h : s.length = 7) {r : Nat} (hr : r ≤ 6) : s[r]? = some (s.getD r 0) := by
  rw [List.getD_eq_getElem?_getD, List.getElem?_eq_getElem (by omega)]; rfl

set_option maxRecDepth 100000 in
set_option maxHeartbeats 1000000 in
theorem kept_c (B : Option Addr) (m d : Nat) (s rows : List Int) (h7 : s.length = 7) (hr : ∀ r ∈ rows, 0 ≤ r ∧ r ≤ 6) (w : World) (hs : Sl ics 1 w w.heap.size B m d rows) :
    Calls Try.prog 110 #[sv s, .slice B m d] w fun e w' => e = .returned (sv (M.kept s rows)) ∧ Ev w w' := by
  have hsm := hs.small
  obtain ⟨a0, a1, a2, a3, a4, a5, a6, hse⟩ := list7 h7
  have hsv : sv s = .agg #[.int .i64 a0, .int .i64 a1, .int .i64 a2, .int .i64 a3, .int .i64 a4, .int .i64 a5, .int .i64 a6] := by rw [hse]; rfl
  have hblk : (.cells #[.int .i64 a0, .int .i64 a1, .int .i64 a2, .int .i64 a3, .int .i64 a4, .int .i64 a5, .int .i64 a6] 101 (0, 0) : Obj) = .cells (s.map (Value.int .i64)).toArray 101 (0, 0) := by rw [hse]; rfl
  rw [hsv]
  have HBLK := hid hblk
  clear hse hsv hblk
  go_enter Try.func110, Try.ntmps110
  go_wp2_with (go_at_call 70; with_reducible refine (blank_c _).mono ?_; rintro e w1 ⟨rfl, hb1⟩)
  have hE1 : Ev w w1 := Ev.trans (Ev.alloc (Ev.alloc (Ev.refl _) _) _) hb1
  have hS1 := hb1.heap (alloc2 w (.cells #[.int .i64 a0, .int .i64 a1, .int .i64 a2, .int .i64 a3, .int .i64 a4, .int .i64 a5, .int .i64 a6] 101) (.cells #[.int .i64 0, .int .i64 0, .int .i64 0, .int .i64 0, .int .i64 0, .int .i64 0, .int .i64 0] 101)).1
  have hR1 := hb1.heap (alloc2 w (.cells #[.int .i64 a0, .int .i64 a1, .int .i64 a2, .int .i64 a3, .int .i64 a4, .int .i64 a5, .int .i64 a6] 101) (.cells #[.int .i64 0, .int .i64 0, .int .i64 0, .int .i64 0, .int .i64 0, .int .i64 0, .int .i64 0] 101)).2.1
  rw [HBLK.out] at hS1
  generalize hW0 : World.alloc w1 _ = W0
  have hE0 : Ev w1 W0 := by rw [← hW0]; exact Ev.alloc (Ev.refl _) _
  have hK0 : Hid (W0.heap[w1.heap.size]? = some (.cells (M.blank.map (Value.int .i64)).toArray 101 (0, 0))) := by rw [← hW0]; exact (alloc1 w1 _).1
  have S0 := hid (hE0.heap hS1)
  have R0 := hid (hE0.heap hR1)
  have hl1 : w.heap.size < w1.heap.size := heap_lt hS1
  have hl2 : w.heap.size + 1 < w1.heap.size := heap_lt hR1
  have HE := hid (hE1.trans hE0)
  clear hS1 hR1 hW0 hE0
  go_loopw [11] (fun i wr => ∃ k : Nat, ∃ y : List Int, i = .int .i64 k ∧ k ≤ m ∧ Ev w wr ∧ Hid (wr.heap[w.heap.size]? = some (.cells (s.map (Value.int .i64)).toArray 101 (0, 0))) ∧ Hid (wr.heap[w.heap.size + 1]? = some (.cells #[.int .i64 0, .int .i64 0, .int .i64 0, .int .i64 0, .int .i64 0, .int .i64 0, .int .i64 0] 101 (0, 0))) ∧ Hid (wr.heap[w1.heap.size]? = some (.cells (y.map (Value.int .i64)).toArray 101 (0, 0))) ∧ y.length = 7 ∧ Hid (M.keep s y (rows.drop k) = M.kept s rows)) (fun i _ => m - (intOf i).toNat)
  case atStart => exact ⟨0, M.blank, rfl, by omega, HE.out, S0, R0, hK0, rfl, hid rfl⟩
  case round =>
    obtain ⟨k, y, rfl, hk, hB, HS, HR, HK, hy7, hm⟩ := hrel
    by_cases hlt' : k < m
    · obtain ⟨b, off, i, rfl, hb, hi, hd, e0⟩ := hs.int hB hlt'
      have H := hid hd
      obtain ⟨i0, i6⟩ := hr i (List.mem_of_getElem? hi)
      obtain ⟨ii, rfl⟩ := Int.eq_ofNat_of_zero_le i0
      clear hd hi
      have hi7 : (ii : Int) < 7 := by omega
      have hsr : wr.cell? ⟨w.heap.size, ii, none⟩ = some (.int .i64 (s.getD ii 0)) := by
        rw [cell_in HS.out ii]
        rw [List.getElem?_toArray, List.getElem?_map, getD7 h7 (show ii ≤ 6 by omega)]; rfl
      have hkr : wr.cell? ⟨w1.heap.size, ii, none⟩ = some (.int .i64 (y.getD ii 0)) := by
        rw [cell_in HK.out ii]
        rw [List.getElem?_toArray, List.getElem?_map, getD7 hy7 (show ii ≤ 6 by omega)]; rfl
      have hz0 := frozen_in HK.out ii
      generalize hv : s.getD ii 0 = v at hsr
      generalize y.getD ii 0 = u at hkr
      have HV := hid hv
      clear hv
      go_wp2
      refine ⟨⟨k + 1, y.set ii v, by go_num, by omega, hB.setCell (by simp; omega) _, hid (set_heap HS.out (by simp; omega)), hid (set_heap HR.out (by simp; omega)), hid ?_, by simpa using hy7, hid ?_⟩, by simp [intOf]; omega⟩
      · rw [set_heap_same HK.out]
        simp [List.map_set]
      · rw [← hm.out, H.out]
        simp only [M.keep, Int.toNat_natCast]
        rw [HV.out]
    · have hnil := hs.done hlt'
      have hmy := hm.out
      rw [hnil] at hmy
      obtain ⟨m0, m1, m2, m3, m4, m5, m6, hye⟩ := list7 hy7
      subst hye
      obtain ⟨q0, q1, q2, q3, q4, q5, q6⟩ := cells7 (v0 := .int .i64 m0) (v1 := .int .i64 m1) (v2 := .int .i64 m2) (v3 := .int .i64 m3) (v4 := .int .i64 m4) (v5 := .int .i64 m5) (v6 := .int .i64 m6) HK.out
      obtain ⟨p0, p1, p2, p3, p4, p5, p6⟩ := cells7 HR.out
      have z0 := frozen_in HR.out 0
      have z1 := frozen_in HR.out 1
      have z2 := frozen_in HR.out 2
      have z3 := frozen_in HR.out 3
      have z4 := frozen_in HR.out 4
      have z5 := frozen_in HR.out 5
      have z6 := frozen_in HR.out 6
      have HMY := hid hmy
      clear hmy hnil
      go_wp2
      refine bodyPost_ret (v := .agg #[.int .i64 m0, .int .i64 m1, .int .i64 m2, .int .i64 m3, .int .i64 m4, .int .i64 m5, .int .i64 m6]) (by simp [results, Try.results110, go_sem, p0, p1, p2, p3, p4, p5, p6]) rfl ⟨?_, ?_⟩
      · rw [← HMY.out]; rfl
      · refine Ev.setCell (Ev.setCell (Ev.setCell (Ev.setCell (Ev.setCell (Ev.setCell (Ev.setCell hB ?_ _) ?_ _) ?_ _) ?_ _) ?_ _) ?_ _) ?_ _ <;> simp

end Go.Proofs.Ytcecmphdmpeibaa

namespace Go.Proofs.Ytcecmphdmpeibaa
open Go.RowKit

theorem frz7 {W : World} {b : Nat} {cs : Array Value} {t : TypeId} (h : W.heap[b]? = some (.cells cs t (0, 0))) : W.frozen? ⟨b, 0, none⟩ = false ∧ W.frozen? ⟨b, 1, none⟩ = false ∧ W.frozen? ⟨b, 2, none⟩ = false ∧ W.frozen? ⟨b, 3, none⟩ = false ∧ W.frozen? ⟨b, 4, none⟩ = false ∧ W.frozen? ⟨b, 5, none⟩ = false ∧ W.frozen? ⟨b, 6, none⟩ = false :=
  ⟨frozen_in h 0, frozen_in h 1, frozen_in h 2, frozen_in h 3, frozen_in h 4, frozen_in h 5, frozen_in h 6⟩

theorem set7 {W : World} {b : Nat} {t : TypeId} {z0 z1 z2 z3 z4 z5 z6 v0 v1 v2 v3 v4 v5 v6 : Value} (h : W.heap[b]? = some (.cells #[z0, z1, z2, z3, z4, z5, z6] t (0, 0))) :
    (((((((W.setCell ⟨b, 0, none⟩ v0).setCell ⟨b, 1, none⟩ v1).setCell ⟨b, 2, none⟩ v2).setCell ⟨b, 3, none⟩ v3).setCell ⟨b, 4, none⟩ v4).setCell ⟨b, 5, none⟩ v5).setCell ⟨b, 6, none⟩ v6).heap[b]? = some (.cells #[v0, v1, v2, v3, v4, v5, v6] t (0, 0)) := by
  have h1 := set_heap_same (j := 0) (v := v0) h
  have h2 := set_heap_same (j := 1) (v := v1) h1
  have h3 := set_heap_same (j := 2) (v := v2) h2
  have h4 := set_heap_same (j := 3) (v := v3) h3
  have h5 := set_heap_same (j := 4) (v := v4) h4
  have h6 := set_heap_same (j := 5) (v := v5) h5
  have h7 := set_heap_same (j := 6) (v := v6) h6
  rw [h7]
  simp

theorem sv_inj {x y : List Int} (h : sv x = sv y) : x = y := by
  have h1 : (x.map (Value.int .i64)) = (y.map (Value.int .i64)) := by simpa [sv] using h
  exact (List.map_inj_right (fun a b hab => by injection hab)).1 h1

/-- Two truths that agree in the rows, but not in the weeder's number. -/
def M.clash (f : M.Fl) (x : Int) (rows t u : List Int) : Bool := decide (M.kept t rows = M.kept u rows) && (M.number f x t != M.number f x u)
def M.settles (f : M.Fl) (x : Int) (ts : List (List Int)) (rows : List Int) : Bool := ts.all fun t => ts.all fun u => !M.clash f x rows t u

theorem M.settles_false {f : M.Fl} {x : Int} {ts : List (List Int)} {rows t u : List Int} (ht : t ∈ ts) (hu : u ∈ ts) (h : M.clash f x rows t u = true) : M.settles f x ts rows = false := by
  unfold M.settles
  rw [List.all_eq_false]
  refine ⟨t, ht, ?_⟩
  rw [Bool.not_eq_true, List.all_eq_false]
  exact ⟨u, hu, by simp [h]⟩

/-- The map of numbers after some truths. -/
structure Nums (f : M.Fl) (x : Int) (rows : List Int) (pre : List (List Int)) (g : Value → Option Value) : Prop where
  all : ∀ t ∈ pre, g (sv (M.kept t rows)) = some (.int .i64 (M.number f x t))
  only : ∀ k v, g k = some v → ∃ t ∈ pre, k = sv (M.kept t rows) ∧ v = .int .i64 (M.number f x t)

theorem Nums.settles {f : M.Fl} {x : Int} {rows : List Int} {pre : List (List Int)} {g : Value → Option Value} (h : Nums f x rows pre g) : M.settles f x pre rows = true := by
  unfold M.settles
  rw [List.all_eq_true]
  intro t ht
  rw [List.all_eq_true]
  intro u hu
  simp only [M.clash, Bool.not_eq_true', Bool.and_eq_false_imp, decide_eq_true_eq]
  intro hk
  have h1 := h.all t ht
  have h2 := h.all u hu
  rw [hk] at h1
  rw [h1] at h2
  injection h2 with h2
  injection h2 with _ h2
  simp [h2]

open Classical in
theorem Nums.put {f : M.Fl} {x : Int} {rows : List Int} {pre : List (List Int)} {g : Value → Option Value} (h : Nums f x rows pre g) (t : List Int) (hc : ∀ v, g (sv (M.kept t rows)) = some v → v = .int .i64 (M.number f x t)) :
    Nums f x rows (pre ++ [t]) (fun k => if k = sv (M.kept t rows) then some (.int .i64 (M.number f x t)) else g k) := by
  refine ⟨fun u hu => ?_, fun k v hk => ?_⟩
  · try simp only []
    split
    · rename_i he
      rcases List.mem_append.1 hu with hu | hu
      · have := h.all u hu
        rw [he] at this
        rw [← hc _ this]
      · rw [show u = t by simpa using hu]
    · rename_i he
      rcases List.mem_append.1 hu with hu | hu
      · exact h.all u hu
      · exact absurd (by rw [show u = t by simpa using hu]) he
  · try simp only [] at hk
    split at hk
    · rename_i he
      exact ⟨t, by simp, he, by cases hk; rfl⟩
    · obtain ⟨u, hu, h1, h2⟩ := h.only k v hk
      exact ⟨u, by simp [hu], h1, h2⟩

theorem kept_len (t rows : List Int) : (M.kept t rows).length = 7 := by unfold M.kept; rw [M.keep_len]; rfl

theorem keep_wf (s : List Int) (hs : ∀ x ∈ s, Wf x) : ∀ (rows k : List Int), (∀ x ∈ k, Wf x) → ∀ x ∈ M.keep s k rows, Wf x
  | [], _, hk => hk
  | r :: rest, k, hk => by
    unfold M.keep
    refine keep_wf s hs rest _ fun x hx => ?_
    rcases List.mem_or_eq_of_mem_set hx with hx | hx
    · exact hk x hx
    · rw [hx, List.getD_eq_getElem?_getD]
      cases hg : s[r.toNat]? with
      | none => exact Wf.of (by simp)
      | some y => exact hs y (List.mem_of_getElem? hg)

theorem kept_wf {s : List Int} (hs : ∀ x ∈ s, Wf x) (rows : List Int) : ∀ x ∈ M.kept s rows, Wf x :=
  keep_wf s hs rows _ (by intro x hx; simp [M.blank] at hx; subst hx; exact Wf.of (by omega))

set_option maxRecDepth 100000 in
set_option maxHeartbeats 4000000 in
theorem settles_c (p : Nat) (x : Int) (mb : Nat) (B : Option Addr) (m d : Nat) (rows : List Int) (hr : ∀ r ∈ rows, 0 ≤ r ∧ r ≤ 6) (f : M.Fl) (ts : List (List Int)) (hwf : ∀ t ∈ ts, ∀ y ∈ t, Wf y) (fs : List (List Bool)) (A A1 A2 : Option Addr) (n c n1 c1 n2 c2 : Nat) (w : World) (hw : Wk w p f ts fs A A1 A2 n c n1 c1 n2 c2)
    (hs : Sl ics 1 w w.heap.size B m d rows) :
    Calls Try.prog 83 #[askv p x (.map (some mb)), .slice B m d] w fun e w' => e = .returned (.bool (M.settles f x ts rows)) ∧ Ev w w' := by
  have hsm := hw.tru.small
  have hkept : ∀ t W, t.length = 7 → Ev w W → Calls Try.prog 110 #[sv t, .slice B m d] W fun e w' => e = .returned (sv (M.kept t rows)) ∧ Ev W w' := fun t W ht hE => kept_c B m d t rows ht hr W (hs.ev hE)
  have hnum : ∀ t W, t.length = 7 → Ev w W → Calls Try.prog 111 #[.agg #[.pointer (some ⟨p, 0, none⟩), .int .i64 x, .map (some mb)], sv t] W fun e w' => e = .returned (.int .i64 (M.number f x t)) ∧ Ev W w' := fun t W ht hE => number_c p x mb t ht f ts fs A A1 A2 n c n1 c1 n2 c2 W (hw.ev hE)
  have HKP := hid hkept
  have HNM := hid hnum
  have HW := hid hw
  have hwb := hw.blk
  have hpl := heap_lt hwb
  obtain ⟨k0, k1, k2, k3, k4, k5, k6⟩ := cells7 hwb
  clear hkept hnum hwb
  have hmm := @run_makeMap Try.prog
  unfold askv
  go_enter Try.func83, Try.ntmps83
  go_wp2
  clear hmm k0 k1 k2 k3 k4 k5 k6
  generalize hW0 : World.alloc (World.alloc w _) _ = W0
  have hE0 : Ev w W0 := by rw [← hW0]; exact Ev.alloc (Ev.alloc (Ev.refl _) _) _
  have hal := alloc2 w (.cells #[.pointer (some ⟨p, 0, none⟩), .int .i64 x, .map (some mb)] 116) (.map #[] 0)
  rw [hW0] at hal
  have hM0 : MapIs Try.prog 101 W0 (w.heap.size + 1) (fun _ => none) := ⟨#[], 0, hal.2.1, by simp, by simp, by simp⟩
  have Q0 := hid hal.1
  have HZ := hid hal.2.2
  clear hal hW0
  go_loopw [19] (fun i wr => ∃ k : Nat, i = .int .i64 k ∧ k ≤ n1 ∧ W0.heap.size ≤ wr.heap.size ∧ Below (w.heap.size + 1) W0 wr ∧ ∃ g, MapIs Try.prog 101 wr (w.heap.size + 1) g ∧ Hid (Nums f x rows (ts.take k) g)) (fun i _ => n1 - (intOf i).toNat)
  case atStart => exact ⟨0, rfl, by omega, Nat.le_refl _, Below.refl _ _, _, hM0, hid ⟨by simp, fun _ _ h => by cases h⟩⟩
  case round =>
    obtain ⟨k, rfl, hk, hzr, hB, g, hM, hN⟩ := hrel
    have hEr : Ev w wr := Below.trans hE0 (hB.mono (by omega))
    have hz1 : w.heap.size < wr.heap.size := by have := HZ.out; omega
    have hz2 : w.heap.size + 1 < wr.heap.size := by have := HZ.out; omega
    by_cases hlt : k < n1
    · obtain ⟨b, off, t, rfl, hb, hx, hd, hcc⟩ := HW.out.tru.at_ hEr hlt
      have ht7 := HW.out.t7 t (List.mem_of_getElem? hx)
      have hkp := fun W hE => HKP.out t W ht7 hE
      have hnm := fun W hE => HNM.out t W ht7 hE
      obtain ⟨b0, b1, b2, b3, b4, b5, b6, hte⟩ := list7 ht7
      have hsv : sv t = .agg #[.int .i64 b0, .int .i64 b1, .int .i64 b2, .int .i64 b3, .int .i64 b4, .int .i64 b5, .int .i64 b6] := by rw [hte]; rfl
      have hscs : scs t = [.int .i64 b0, .int .i64 b1, .int .i64 b2, .int .i64 b3, .int .i64 b4, .int .i64 b5, .int .i64 b6] := by rw [hte]; rfl
      rw [hscs] at hcc
      have e0 := hcc 0 _ rfl
      have e1 := hcc 1 _ rfl
      have e2 := hcc 2 _ rfl
      have e3 := hcc 3 _ rfl
      have e4 := hcc 4 _ rfl
      have e5 := hcc 5 _ rfl
      have e6 := hcc 6 _ rfl
      simp only [Nat.add_zero] at e0
      rw [hsv] at hkp hnm
      obtain ⟨j0, j1, j2, j3, j4, j5, j6, hke⟩ := list7 (kept_len t rows)
      have hsk : sv (M.kept t rows) = .agg #[.int .i64 j0, .int .i64 j1, .int .i64 j2, .int .i64 j3, .int .i64 j4, .int .i64 j5, .int .i64 j6] := by rw [hke]; rfl
      rw [hsk] at hkp
      have HKP1 := hid hkp
      have HNM1 := hid hnm
      have HX := hid hx
      have HSK := hid hsk
      clear hkp hnm hsv hscs hcc hte hke hsk hx hd
      go_wp2
      generalize hW1 : World.alloc wr _ = W1
      have hE1 : Ev wr W1 := by rw [← hW1]; exact Ev.alloc (Ev.refl _) _
      have hT1 := (alloc1 wr (.cells #[.int .i64 b0, .int .i64 b1, .int .i64 b2, .int .i64 b3, .int .i64 b4, .int .i64 b5, .int .i64 b6] 101))
      rw [hW1] at hT1
      obtain ⟨t0, t1, t2, t3, t4, t5, t6⟩ := cells7 hT1.1
      obtain ⟨q0, q1, q2⟩ := cells3 (hE1.heap ((hB.block w.heap.size (by omega)).trans Q0.out))
      have hzz := hT1.2
      have hy1 : w.heap.size < wr.heap.size + 1 := by omega
      have hEw := hEr.trans hE1
      have HSE : Hid (∀ w', Ev W1 w' → Ev W1 w' ∧ (∀ b o, b < wr.heap.size + 1 → w'.cell? ⟨b, o, none⟩ = W1.cell? ⟨b, o, none⟩)) := hid (fun w' h => ⟨h, fun b o hb => h.cells.1 b o (by omega)⟩)
      clear hT1 hW1 e0 e1 e2 e3 e4 e5 e6 hzz
      go_region_held3 (fun w' => Ev W1 w' ∧ (∀ b o, b < wr.heap.size + 1 → w'.cell? ⟨b, o, none⟩ = W1.cell? ⟨b, o, none⟩)) (exact HSE.out _ (by repeat (first | (with_reducible exact Ev.refl W1) | (go_split_ands; with_reducible assumption) | with_reducible refine Ev.drew ?_ | with_reducible refine Ev.alloc ?_ _ | with_reducible refine Ev.setCell ?_ ?_ _ | with_reducible refine Ev.trans ?_ (by with_reducible assumption) | exact Nat.le_refl _ | omega | (simp; done) | (simp; omega)))) (first | (go_at_call 110; with_reducible refine (HKP1.out _ ?_).mono ?_; (go_split_ands; exact hEw.trans (by with_reducible assumption)); rintro e w1 ⟨rfl, hb1⟩; have hz3 := hb1.size; (try simp at hz3); (try (have hA := hb1.heap (heap_at W1 _ rfl); obtain ⟨g0, g1, g2, g3, g4, g5, g6⟩ := cells7 hA; obtain ⟨f0, f1, f2, f3, f4, f5, f6⟩ := frz7 hA; have HA := hid hA; clear hA))) | (go_at_call 111; with_reducible refine (HNM1.out _ ?_).mono ?_; (go_split_ands; exact hEw.trans (by with_reducible assumption)); rintro e w2 ⟨rfl, hb2⟩; have hz4 := hb2.size; (try simp at hz4); (first | (have hA := hb2.heap HA.out; obtain ⟨g0, g1, g2, g3, g4, g5, g6⟩ := cells7 hA; obtain ⟨f0, f1, f2, f3, f4, f5, f6⟩ := frz7 hA; have HA2 := hid hA; clear hA) | (have hA := hb2.heap (heap_at w1 _ rfl); obtain ⟨g0, g1, g2, g3, g4, g5, g6⟩ := cells7 hA; obtain ⟨f0, f1, f2, f3, f4, f5, f6⟩ := frz7 hA; have HA2 := hid hA; clear hA) | skip)))
      all_goals (try clear g0 g1 g2 g3 g4 g5 g6 f0 f1 f2 f3 f4 f5 f6)
      · have hEF : Ev W1 (w2.alloc (.cells #[.int .i64 j0, .int .i64 j1, .int .i64 j2, .int .i64 j3, .int .i64 j4, .int .i64 j5, .int .i64 j6] 101)) := by go_split_ands; assumption
        have hXF := heap_at w2 (.cells #[.int .i64 j0, .int .i64 j1, .int .i64 j2, .int .i64 j3, .int .i64 j4, .int .i64 j5, .int .i64 j6] 101) rfl
        generalize World.alloc w2 _ = WF at hEF hXF ⊢
        have hEwF := hE1.trans hEF
        have hMF := hM.keep (Below.evr hEwF (show w.heap.size + 1 + 1 ≤ wr.heap.size by omega)) (by omega)
        obtain ⟨x0, x1, x2, x3, x4, x5, x6⟩ := cells7 hXF
        obtain ⟨kl, hkl⟩ := key101 (kept_len t rows) (kept_wf (hwf t (List.mem_of_getElem? HX.out)) rows)
        rw [HSK.out] at hkl
        have HKL := hid hkl
        have HXF := hid hXF
        have hTK : ts.take (k + 1) = ts.take k ++ [t] := by rw [List.take_add_one, HX.out]; rfl
        have HTK := hid hTK
        clear hkl hXF hTK
        cases hg : g (.agg #[.int .i64 j0, .int .i64 j1, .int .i64 j2, .int .i64 j3, .int .i64 j4, .int .i64 j5, .int .i64 j6]) with
        | none =>
          have HG := hid hg
          have HN1 := hid (hN.out.put t (fun v hv => by rw [HSK.out, HG.out] at hv; cases hv))
          clear hg
          go_wp2_with (first | (at_lookup; refine MapIs.lk hMF law101 Try.underlying114 (fun w => Try.zeroValue3 w) HKL.out rfl _ _ rfl rfl rfl ?_; rw [HG.out]; simp only [Option.getD_none, Option.isSome_none]) | (at_mapUpdate; refine MapIs.up hMF law101 Try.underlying114 HKL.out rfl _ _ _ rfl rfl rfl rfl ?_; intro w5 hM5 hg5))
          have b3 : Below (w.heap.size + 1) wr w5 := (Below.evr hEwF (show w.heap.size + 1 ≤ wr.heap.size by omega)).grown hg5 (show w.heap.size + 1 ≤ WF.heap.size by have := hEwF.size; omega) (fun k e => by cases e; omega)
          refine ⟨⟨k + 1, by go_num, by omega, Nat.le_trans hzr b3.size, hB.trans b3, _, hM5, hid ?_⟩, by simp [intOf]; omega⟩
          rw [HTK.out, ← HSK.out]
          exact HN1.out
        | some v =>
          obtain ⟨u, hu, hku, hvu⟩ := hN.out.only _ _ hg
          have HG := hid hg
          have HKU := hid hku
          subst hvu
          clear hg hku
          by_cases hmm : M.number f x u = M.number f x t
          · have hne : (M.number f x u != M.number f x t) = false := by simp [hmm]
            have HN1 := hid (hN.out.put t (fun v hv => by rw [HSK.out, HG.out] at hv; cases hv; rw [hmm]))
            have HMM := hid hmm
            clear hmm
            go_wp2_with (first | (at_lookup; refine MapIs.lk hMF law101 Try.underlying114 (fun w => Try.zeroValue3 w) HKL.out rfl _ _ rfl rfl rfl ?_; rw [HG.out]; simp only [Option.getD_some, Option.isSome_some]) | (at_mapUpdate; refine MapIs.up hMF law101 Try.underlying114 HKL.out rfl _ _ _ rfl rfl rfl rfl ?_; intro w5 hM5 hg5))
            have b3 : Below (w.heap.size + 1) wr w5 := (Below.evr hEwF (show w.heap.size + 1 ≤ wr.heap.size by omega)).grown hg5 (show w.heap.size + 1 ≤ WF.heap.size by have := hEwF.size; omega) (fun k e => by cases e; omega)
            refine ⟨⟨k + 1, by go_num, by omega, Nat.le_trans hzr b3.size, hB.trans b3, _, hM5, hid ?_⟩, by simp [intOf]; omega⟩
            rw [HTK.out, ← HSK.out]
            exact HN1.out
          · have hne : (M.number f x u != M.number f x t) = true := by simpa using hmm
            have HMM := hid hmm
            clear hmm
            go_wp2_with (at_lookup; refine MapIs.lk hMF law101 Try.underlying114 (fun w => Try.zeroValue3 w) HKL.out rfl _ _ rfl rfl rfl ?_; rw [HG.out]; simp only [Option.getD_some, Option.isSome_some])
            go_ret
            refine ⟨ret_bool ?_, hEr.trans hEwF⟩
            refine (M.settles_false (List.mem_of_mem_take hu) (List.mem_of_getElem? HX.out) ?_).symm
            unfold M.clash
            rw [Bool.and_eq_true]
            exact ⟨by rw [decide_eq_true_eq]; exact sv_inj (by rw [← HKU.out, HSK.out]), by simpa using HMM.out⟩
      · have hEF : Ev W1 (((((((w2.setCell ⟨w1.heap.size, 0, none⟩ (.int .i64 j0)).setCell ⟨w1.heap.size, 1, none⟩ (.int .i64 j1)).setCell ⟨w1.heap.size, 2, none⟩ (.int .i64 j2)).setCell ⟨w1.heap.size, 3, none⟩ (.int .i64 j3)).setCell ⟨w1.heap.size, 4, none⟩ (.int .i64 j4)).setCell ⟨w1.heap.size, 5, none⟩ (.int .i64 j5)).setCell ⟨w1.heap.size, 6, none⟩ (.int .i64 j6)) := by go_split_ands; assumption
        have hXF : ((((((((w2.setCell ⟨w1.heap.size, 0, none⟩ (.int .i64 j0)).setCell ⟨w1.heap.size, 1, none⟩ (.int .i64 j1)).setCell ⟨w1.heap.size, 2, none⟩ (.int .i64 j2)).setCell ⟨w1.heap.size, 3, none⟩ (.int .i64 j3)).setCell ⟨w1.heap.size, 4, none⟩ (.int .i64 j4)).setCell ⟨w1.heap.size, 5, none⟩ (.int .i64 j5)).setCell ⟨w1.heap.size, 6, none⟩ (.int .i64 j6))).heap[w1.heap.size]? = some (.cells #[.int .i64 j0, .int .i64 j1, .int .i64 j2, .int .i64 j3, .int .i64 j4, .int .i64 j5, .int .i64 j6] 101 (0, 0)) := set7 HA2.out
        generalize (((((((w2.setCell ⟨w1.heap.size, 0, none⟩ (.int .i64 j0)).setCell ⟨w1.heap.size, 1, none⟩ (.int .i64 j1)).setCell ⟨w1.heap.size, 2, none⟩ (.int .i64 j2)).setCell ⟨w1.heap.size, 3, none⟩ (.int .i64 j3)).setCell ⟨w1.heap.size, 4, none⟩ (.int .i64 j4)).setCell ⟨w1.heap.size, 5, none⟩ (.int .i64 j5)).setCell ⟨w1.heap.size, 6, none⟩ (.int .i64 j6)) = WF at hEF hXF ⊢
        have hEwF := hE1.trans hEF
        have hMF := hM.keep (Below.evr hEwF (show w.heap.size + 1 + 1 ≤ wr.heap.size by omega)) (by omega)
        obtain ⟨x0, x1, x2, x3, x4, x5, x6⟩ := cells7 hXF
        obtain ⟨kl, hkl⟩ := key101 (kept_len t rows) (kept_wf (hwf t (List.mem_of_getElem? HX.out)) rows)
        rw [HSK.out] at hkl
        have HKL := hid hkl
        have HXF := hid hXF
        have hTK : ts.take (k + 1) = ts.take k ++ [t] := by rw [List.take_add_one, HX.out]; rfl
        have HTK := hid hTK
        clear hkl hXF hTK
        cases hg : g (.agg #[.int .i64 j0, .int .i64 j1, .int .i64 j2, .int .i64 j3, .int .i64 j4, .int .i64 j5, .int .i64 j6]) with
        | none =>
          have HG := hid hg
          have HN1 := hid (hN.out.put t (fun v hv => by rw [HSK.out, HG.out] at hv; cases hv))
          clear hg
          go_wp2_with (first | (at_lookup; refine MapIs.lk hMF law101 Try.underlying114 (fun w => Try.zeroValue3 w) HKL.out rfl _ _ rfl rfl rfl ?_; rw [HG.out]; simp only [Option.getD_none, Option.isSome_none]) | (at_mapUpdate; refine MapIs.up hMF law101 Try.underlying114 HKL.out rfl _ _ _ rfl rfl rfl rfl ?_; intro w5 hM5 hg5))
          have b3 : Below (w.heap.size + 1) wr w5 := (Below.evr hEwF (show w.heap.size + 1 ≤ wr.heap.size by omega)).grown hg5 (show w.heap.size + 1 ≤ WF.heap.size by have := hEwF.size; omega) (fun k e => by cases e; omega)
          refine ⟨⟨k + 1, by go_num, by omega, Nat.le_trans hzr b3.size, hB.trans b3, _, hM5, hid ?_⟩, by simp [intOf]; omega⟩
          rw [HTK.out, ← HSK.out]
          exact HN1.out
        | some v =>
          obtain ⟨u, hu, hku, hvu⟩ := hN.out.only _ _ hg
          have HG := hid hg
          have HKU := hid hku
          subst hvu
          clear hg hku
          by_cases hmm : M.number f x u = M.number f x t
          · have hne : (M.number f x u != M.number f x t) = false := by simp [hmm]
            have HN1 := hid (hN.out.put t (fun v hv => by rw [HSK.out, HG.out] at hv; cases hv; rw [hmm]))
            have HMM := hid hmm
            clear hmm
            go_wp2_with (first | (at_lookup; refine MapIs.lk hMF law101 Try.underlying114 (fun w => Try.zeroValue3 w) HKL.out rfl _ _ rfl rfl rfl ?_; rw [HG.out]; simp only [Option.getD_some, Option.isSome_some]) | (at_mapUpdate; refine MapIs.up hMF law101 Try.underlying114 HKL.out rfl _ _ _ rfl rfl rfl rfl ?_; intro w5 hM5 hg5))
            have b3 : Below (w.heap.size + 1) wr w5 := (Below.evr hEwF (show w.heap.size + 1 ≤ wr.heap.size by omega)).grown hg5 (show w.heap.size + 1 ≤ WF.heap.size by have := hEwF.size; omega) (fun k e => by cases e; omega)
            refine ⟨⟨k + 1, by go_num, by omega, Nat.le_trans hzr b3.size, hB.trans b3, _, hM5, hid ?_⟩, by simp [intOf]; omega⟩
            rw [HTK.out, ← HSK.out]
            exact HN1.out
          · have hne : (M.number f x u != M.number f x t) = true := by simpa using hmm
            have HMM := hid hmm
            clear hmm
            go_wp2_with (at_lookup; refine MapIs.lk hMF law101 Try.underlying114 (fun w => Try.zeroValue3 w) HKL.out rfl _ _ rfl rfl rfl ?_; rw [HG.out]; simp only [Option.getD_some, Option.isSome_some])
            go_ret
            refine ⟨ret_bool ?_, hEr.trans hEwF⟩
            refine (M.settles_false (List.mem_of_mem_take hu) (List.mem_of_getElem? HX.out) ?_).symm
            unfold M.clash
            rw [Bool.and_eq_true]
            exact ⟨by rw [decide_eq_true_eq]; exact sv_inj (by rw [← HKU.out, HSK.out]), by simpa using HMM.out⟩
      · have hEF : Ev W1 (((((((w2.setCell ⟨W1.heap.size, 0, none⟩ (.int .i64 j0)).setCell ⟨W1.heap.size, 1, none⟩ (.int .i64 j1)).setCell ⟨W1.heap.size, 2, none⟩ (.int .i64 j2)).setCell ⟨W1.heap.size, 3, none⟩ (.int .i64 j3)).setCell ⟨W1.heap.size, 4, none⟩ (.int .i64 j4)).setCell ⟨W1.heap.size, 5, none⟩ (.int .i64 j5)).setCell ⟨W1.heap.size, 6, none⟩ (.int .i64 j6)) := by go_split_ands; assumption
        have hXF : ((((((((w2.setCell ⟨W1.heap.size, 0, none⟩ (.int .i64 j0)).setCell ⟨W1.heap.size, 1, none⟩ (.int .i64 j1)).setCell ⟨W1.heap.size, 2, none⟩ (.int .i64 j2)).setCell ⟨W1.heap.size, 3, none⟩ (.int .i64 j3)).setCell ⟨W1.heap.size, 4, none⟩ (.int .i64 j4)).setCell ⟨W1.heap.size, 5, none⟩ (.int .i64 j5)).setCell ⟨W1.heap.size, 6, none⟩ (.int .i64 j6))).heap[W1.heap.size]? = some (.cells #[.int .i64 j0, .int .i64 j1, .int .i64 j2, .int .i64 j3, .int .i64 j4, .int .i64 j5, .int .i64 j6] 101 (0, 0)) := set7 HA2.out
        generalize (((((((w2.setCell ⟨W1.heap.size, 0, none⟩ (.int .i64 j0)).setCell ⟨W1.heap.size, 1, none⟩ (.int .i64 j1)).setCell ⟨W1.heap.size, 2, none⟩ (.int .i64 j2)).setCell ⟨W1.heap.size, 3, none⟩ (.int .i64 j3)).setCell ⟨W1.heap.size, 4, none⟩ (.int .i64 j4)).setCell ⟨W1.heap.size, 5, none⟩ (.int .i64 j5)).setCell ⟨W1.heap.size, 6, none⟩ (.int .i64 j6)) = WF at hEF hXF ⊢
        have hEwF := hE1.trans hEF
        have hMF := hM.keep (Below.evr hEwF (show w.heap.size + 1 + 1 ≤ wr.heap.size by omega)) (by omega)
        obtain ⟨x0, x1, x2, x3, x4, x5, x6⟩ := cells7 hXF
        obtain ⟨kl, hkl⟩ := key101 (kept_len t rows) (kept_wf (hwf t (List.mem_of_getElem? HX.out)) rows)
        rw [HSK.out] at hkl
        have HKL := hid hkl
        have HXF := hid hXF
        have hTK : ts.take (k + 1) = ts.take k ++ [t] := by rw [List.take_add_one, HX.out]; rfl
        have HTK := hid hTK
        clear hkl hXF hTK
        cases hg : g (.agg #[.int .i64 j0, .int .i64 j1, .int .i64 j2, .int .i64 j3, .int .i64 j4, .int .i64 j5, .int .i64 j6]) with
        | none =>
          have HG := hid hg
          have HN1 := hid (hN.out.put t (fun v hv => by rw [HSK.out, HG.out] at hv; cases hv))
          clear hg
          go_wp2_with (first | (at_lookup; refine MapIs.lk hMF law101 Try.underlying114 (fun w => Try.zeroValue3 w) HKL.out rfl _ _ rfl rfl rfl ?_; rw [HG.out]; simp only [Option.getD_none, Option.isSome_none]) | (at_mapUpdate; refine MapIs.up hMF law101 Try.underlying114 HKL.out rfl _ _ _ rfl rfl rfl rfl ?_; intro w5 hM5 hg5))
          have b3 : Below (w.heap.size + 1) wr w5 := (Below.evr hEwF (show w.heap.size + 1 ≤ wr.heap.size by omega)).grown hg5 (show w.heap.size + 1 ≤ WF.heap.size by have := hEwF.size; omega) (fun k e => by cases e; omega)
          refine ⟨⟨k + 1, by go_num, by omega, Nat.le_trans hzr b3.size, hB.trans b3, _, hM5, hid ?_⟩, by simp [intOf]; omega⟩
          rw [HTK.out, ← HSK.out]
          exact HN1.out
        | some v =>
          obtain ⟨u, hu, hku, hvu⟩ := hN.out.only _ _ hg
          have HG := hid hg
          have HKU := hid hku
          subst hvu
          clear hg hku
          by_cases hmm : M.number f x u = M.number f x t
          · have hne : (M.number f x u != M.number f x t) = false := by simp [hmm]
            have HN1 := hid (hN.out.put t (fun v hv => by rw [HSK.out, HG.out] at hv; cases hv; rw [hmm]))
            have HMM := hid hmm
            clear hmm
            go_wp2_with (first | (at_lookup; refine MapIs.lk hMF law101 Try.underlying114 (fun w => Try.zeroValue3 w) HKL.out rfl _ _ rfl rfl rfl ?_; rw [HG.out]; simp only [Option.getD_some, Option.isSome_some]) | (at_mapUpdate; refine MapIs.up hMF law101 Try.underlying114 HKL.out rfl _ _ _ rfl rfl rfl rfl ?_; intro w5 hM5 hg5))
            have b3 : Below (w.heap.size + 1) wr w5 := (Below.evr hEwF (show w.heap.size + 1 ≤ wr.heap.size by omega)).grown hg5 (show w.heap.size + 1 ≤ WF.heap.size by have := hEwF.size; omega) (fun k e => by cases e; omega)
            refine ⟨⟨k + 1, by go_num, by omega, Nat.le_trans hzr b3.size, hB.trans b3, _, hM5, hid ?_⟩, by simp [intOf]; omega⟩
            rw [HTK.out, ← HSK.out]
            exact HN1.out
          · have hne : (M.number f x u != M.number f x t) = true := by simpa using hmm
            have HMM := hid hmm
            clear hmm
            go_wp2_with (at_lookup; refine MapIs.lk hMF law101 Try.underlying114 (fun w => Try.zeroValue3 w) HKL.out rfl _ _ rfl rfl rfl ?_; rw [HG.out]; simp only [Option.getD_some, Option.isSome_some])
            go_ret
            refine ⟨ret_bool ?_, hEr.trans hEwF⟩
            refine (M.settles_false (List.mem_of_mem_take hu) (List.mem_of_getElem? HX.out) ?_).symm
            unfold M.clash
            rw [Bool.and_eq_true]
            exact ⟨by rw [decide_eq_true_eq]; exact sv_inj (by rw [← HKU.out, HSK.out]), by simpa using HMM.out⟩
    · have hd := HW.out.tru.len
      have hfin := hN.out.settles
      rw [List.take_of_length_le (by omega)] at hfin
      have HF := hid hfin
      clear hd hfin
      go_wp2
      go_ret
      exact ⟨ret_bool (by rw [HF.out]), hEr⟩

end Go.Proofs.Ytcecmphdmpeibaa

namespace Go.Proofs.Ytcecmphdmpeibaa
open Go.RowKit

theorem _root_.Go.World.ownsRow.ev {a b : World} {base : Nat} {e : TypeId} {size : Nat} {v : Value} {n : Nat} {xs : List Value} (h : a.ownsRow base e size v n xs) (hb : Ev a b) : b.ownsRow base e size v n xs := by
  refine ⟨h.1, ?_⟩
  rcases h.2 with hn | ⟨g, cap, cur, rfl, hbg, hgg, rest⟩
  · exact .inl hn
  · exact .inr ⟨g, cap, cur, rfl, hbg, hb.heap hgg, rest⟩

theorem Sl.tail {α : Type} {enc : α → List Value} {sz : Nat} {w : World} {B : Nat} {b off n c : Nat} {x : α} {xs : List α}
    (h : Sl enc sz w B (some ⟨b, off, none⟩) (n + 1) c (x :: xs)) : Sl enc sz w B (some ⟨b, off + sz, none⟩) n (c - 1) xs := by
  refine ⟨by have := h.len; simpa using this, by have := h.cap; omega, by have := h.small; omega, fun hn => ?_⟩
  obtain ⟨b', off', hA, hlt, hc⟩ := h.cells (by omega)
  simp only [Option.some.injEq, Addr.mk.injEq, and_true] at hA
  obtain ⟨rfl, rfl⟩ := hA
  refine ⟨b, off + sz, rfl, hlt, fun k y hk j v hj => ?_⟩
  have := hc (k + 1) y (by simpa using hk) j v hj
  rw [show off + sz + k * sz + j = off + (k + 1) * sz + j from by rw [Nat.succ_mul]; omega]
  exact this

theorem step_append_own {P : Program} {w : World} {ops : Array Oper} {o : Oper} {a : Act} {K : Act → World → Prop} {Q : Exit → Act → World → Prop} {E : Prop} (hgd : o.guard = none) (s x : Operand) (t : TypeId)
    (ho : o.op = .call { callee := .builtin .append, args := #[s, x], argTypes := #[t, t] })
    (base : Nat) (e : TypeId) (i : TypeInfo) (z : Value) (size bytes : Nat) (ht : P.underlying t = some (.slice e)) (hi : P.info? e = some i) (hz : i.zero = some z)
    (hsize : i.size = size) (hby : i.bytes = bytes) (hzs : z.cells.size = size) (hsz : 0 < size)
    (v : Value) (n : Nat) (xs : List Value) (hs : a.eval s = v) (hown : w.ownsRow base e size v n xs)
    (ad : Addr) (m c : Nat) (news : List Value) (hx : a.eval x = .slice (some ad) m c) (hl : news.length = m * size) (hnews : ∀ j u, news[j]? = some u → w.cell? (ad.add j) = some u) (h1 : ∀ u ∈ news, u.oneCell' = true)
    (h63 : n + m ≤ maxLen) (hbytes : (n + m) * bytes ≤ 140737488355328) (hbase : base ≤ w.heap.size)
    (h : ∀ v' w', w'.ownsRow base e size v' (n + m) (xs ++ news) → w.grownBy w' v.ownBlock → (v' = .slice none 0 0 ↔ v = .slice none 0 0 ∧ m = 0) → K (a.put o.dst v') w') :
    if Region.wanted o (yielded ops a.tmps) = true then Oper.wp P o a w K Q else E := by
  rw [if_pos (by simp [Region.wanted, hgd])]
  exact wp_append_own w s x t ho base e i z size bytes ht hi hz hsize hby hzs hsz v n xs hs hown ad m c news hx hl hnews h1 h63 hbytes hbase h

theorem tail1 {w : World} {B b off m d : Nat} {x : Int} {r : List Int} (h : Sl ics 1 w B (some ⟨b, off, none⟩) (m + 1) d (x :: r)) :
    ∃ T, (∀ wx, (Instr.slice 27 (.slice (some ⟨b, off, none⟩) (m + 1) d) (some (.int .i64 1)) none none).run Try.prog wx = .ok (.slice T m (d - 1)) wx) ∧ (∀ wx, (Instr.sliceAt 27 (.slice (some ⟨b, off, none⟩) (m + 1) d) (some (.int .i64 1)) none none).run Try.prog wx = .ok (.slice T m (d - 1)) wx) ∧ Sl ics 1 w B T m (d - 1) r := by
  have hcap := h.cap
  have he : Try.prog.elem 27 = 3 := by kernel_rfl
  have hu : Try.prog.underlying 27 = some (.slice (Try.prog.elem 27)) := by rw [he]; exact Try.underlying27
  have hr : ∀ wx, (Instr.slice 27 (.slice (some ⟨b, off, none⟩) (m + 1) d) (some (.int .i64 1)) none none).run Try.prog wx = .ok (.slice (if d = 1 then some ⟨b, off, none⟩ else some ⟨b, off + 1, none⟩) m (d - 1)) wx := by
    intro wx
    rw [run_slice_l wx 27 _ _ _ hu .i64 1 (by omega) (by omega), he, Try.sizeOf3]
    simp only [Result.andThen_ok, sliced]
    congr 1
  refine ⟨_, hr, fun wx => ?_, ?_⟩
  · rw [run_sliceAt_slice wx 27 _ _ _ _ hu]; exact hr wx
  · have := h.tail
    by_cases h1 : d = 1
    · exact ⟨this.len, this.cap, this.small, fun hm => by omega⟩
    · rw [if_neg h1]; exact this

def M.bounds (f : M.Fl) (x : Int) (ts : List (List Int)) : M.Rg := match ts.map (M.number f x) with
  | [] => ⟨0, 0⟩
  | a :: r => ⟨M.least a r, M.most a r⟩

set_option maxRecDepth 100000 in
set_option maxHeartbeats 2000000 in
theorem bounds_c (p : Nat) (x : Int) (f : M.Fl) (ts : List (List Int)) (fs : List (List Bool)) (A A1 A2 : Option Addr) (n c n1 c1 n2 c2 : Nat) (w : World) (hw : Wk w p f ts fs A A1 A2 n c n1 c1 n2 c2) (hne : 0 < n1) :
    Calls Try.prog 76 #[.pointer (some ⟨p, 0, none⟩), .int .i64 x] w fun e w' => e = .returned (.agg #[.int .i64 (M.bounds f x ts).lo, .int .i64 (M.bounds f x ts).hi]) ∧ Ev w w' := by
  obtain ⟨i0, hi, hz0, hz1, hz2⟩ := info_parts info3
  have hsm := hw.tru.small
  have hwh : ∀ W, Calls Try.prog 105 #[.agg #[.int .i64 f.rows, .int .i64 f.wds, .int .i64 f.lf.lo, .int .i64 f.lf.hi, .slice A n c], .int .i64 x] W fun e w' => e = .returned (.agg #[.int .i64 x, .int .i64 0, .int .i64 (f.rows - 1)]) ∧ Ev W w' := fun W => whole_c f A n c x W (by have := hw.r1; omega) hw.r7
  have hct : ∀ t W, t.length = 7 → Calls Try.prog 104 #[sv t, .agg #[.int .i64 x, .int .i64 0, .int .i64 (f.rows - 1)]] W fun e w' => e = .returned (.int .i64 (M.count t x 0 (f.rows - 1))) ∧ Ev W w' := fun t W ht => count_c t ht x 0 (f.rows - 1) (by omega) (by have := hw.r1; omega) (by have := hw.r7; omega) W
  have H1 := hid hwh
  have H2 := hid hct
  have HW := hid hw
  have hpl := heap_lt hw.blk
  have hwb := hw.blk
  obtain ⟨k0, k1, k2, k3, k4, k5, k6⟩ := cells7 hwb
  clear hwh hct hwb
  go_enter Try.func76, Try.ntmps76
  go_wp2
  clear k0 k1 k2 k3 k4 k5 k6
  generalize hW0 : World.alloc w _ = W0
  have hE0 : Ev w W0 := by rw [← hW0]; exact Ev.alloc (Ev.refl _) _
  have hal := alloc1 w (.cells #[.int .i64 0, .int .i64 0] 33)
  rw [hW0] at hal
  have Q0 := hid hal.1
  clear hal hW0
  go_loopw [5, 13] (fun v i wr => ∃ k : Nat, i = .int .i64 k ∧ k ≤ n1 ∧ Ev w wr ∧ Hid (wr.heap[w.heap.size]? = some (.cells #[.int .i64 0, .int .i64 0] 33 (0, 0))) ∧ wr.ownsRow (w.heap.size + 1) 3 1 v k (((ts.take k).map (M.number f x)).flatMap ics)) (fun _ i _ => n1 - (intOf i).toNat)
  case atStart => exact ⟨0, rfl, by omega, hE0, Q0, World.ownsRow_nil _ _ _ _⟩
  case round =>
    obtain ⟨k, rfl, hk, hB, hQ, hown⟩ := hrel
    by_cases hlt : k < n1
    · obtain ⟨b, off, t, rfl, hb, hx, hd, hcc⟩ := HW.out.tru.at_ hB hlt
      have ht7 := HW.out.t7 t (List.mem_of_getElem? hx)
      have hnm := fun W => H2.out t W ht7
      obtain ⟨b0, b1, b2, b3, b4, b5, b6, hte⟩ := list7 ht7
      have hsv : sv t = .agg #[.int .i64 b0, .int .i64 b1, .int .i64 b2, .int .i64 b3, .int .i64 b4, .int .i64 b5, .int .i64 b6] := by rw [hte]; rfl
      have hscs : scs t = [.int .i64 b0, .int .i64 b1, .int .i64 b2, .int .i64 b3, .int .i64 b4, .int .i64 b5, .int .i64 b6] := by rw [hte]; rfl
      rw [hscs] at hcc
      have e0 := hcc 0 _ rfl
      have e1 := hcc 1 _ rfl
      have e2 := hcc 2 _ rfl
      have e3 := hcc 3 _ rfl
      have e4 := hcc 4 _ rfl
      have e5 := hcc 5 _ rfl
      have e6 := hcc 6 _ rfl
      simp only [Nat.add_zero] at e0
      rw [hsv] at hnm
      have HNM1 := hid hnm
      have HX := hid hx
      clear hnm hsv hscs hcc hte hx hd
      go_wp2
      generalize hW1 : World.alloc wr _ = W1
      have hE1 : Ev wr W1 := by rw [← hW1]; exact Ev.alloc (Ev.refl _) _
      have hT1 := (alloc1 wr (.cells #[.int .i64 b0, .int .i64 b1, .int .i64 b2, .int .i64 b3, .int .i64 b4, .int .i64 b5, .int .i64 b6] 101))
      rw [hW1] at hT1
      obtain ⟨t0, t1, t2, t3, t4, t5, t6⟩ := cells7 hT1.1
      obtain ⟨k0, k1, k2, k3, k4, k5, k6⟩ := cells7 ((hB.trans hE1).heap HW.out.blk)
      have hzz := hT1.2
      have hEw := hB.trans hE1
      have hbs := hB.size
      have hown1 := hown.ev hE1
      have hpr : p < wr.heap.size := by omega
      clear hT1 hW1 e0 e1 e2 e3 e4 e5 e6
      have hzw : w.heap.size + 1 ≤ W1.heap.size := by omega
      have hlt1 := hown.lt
      have HSE : Hid (∀ w', Ev W1 w' → Below (w.heap.size + 1) W1 w' ∧ (∀ o, w'.cell? ⟨p, o, none⟩ = W1.cell? ⟨p, o, none⟩) ∧ (∀ o, w'.cell? ⟨wr.heap.size, o, none⟩ = W1.cell? ⟨wr.heap.size, o, none⟩)) := hid (fun w' h => ⟨Below.evr h hzw, fun o => h.cells.1 _ o (by omega), fun o => h.cells.1 _ o (by omega)⟩)
      have HGR : Hid (∀ w' w3, Ev W1 w' → w'.grownBy w3 u5.ownBlock → Below (w.heap.size + 1) W1 w3 ∧ (∀ o, w3.cell? ⟨p, o, none⟩ = W1.cell? ⟨p, o, none⟩) ∧ (∀ o, w3.cell? ⟨wr.heap.size, o, none⟩ = W1.cell? ⟨wr.heap.size, o, none⟩)) := hid (fun w' w3 h hg => by
        have hs := h.size
        have hB3 : Below (w.heap.size + 1) W1 w3 := Below.grown (Below.evr h hzw) hg (by omega) (fun k hk => (hlt1 k hk).1)
        refine ⟨hB3, fun o => hB3.cell (p := ⟨p, o, none⟩) (by simp; omega), fun o => ?_⟩
        refine Eq.trans (World.cell?_of_block (w := w') (hg.block _ (by show wr.heap.size < w'.heap.size; omega) (fun e => ?_))) (h.cells.1 _ o (by omega))
        have : wr.heap.size < wr.heap.size := (hlt1 _ e.symm).2
        omega)
      have hlt2 := hid hlt1
      clear hlt1
      go_region_held3 (fun w' => Below (w.heap.size + 1) W1 w' ∧ (∀ o, w'.cell? ⟨p, o, none⟩ = W1.cell? ⟨p, o, none⟩) ∧ (∀ o, w'.cell? ⟨wr.heap.size, o, none⟩ = W1.cell? ⟨wr.heap.size, o, none⟩)) (first | (with_reducible exact hP3) | (exact ⟨hP3.1.drew, hP3.2.1, hP3.2.2⟩) | (exact HSE.out _ (by repeat (first | with_reducible exact Ev.refl W1 | (with_reducible assumption) | with_reducible refine Ev.drew ?_ | with_reducible refine Ev.alloc ?_ _)))) (first | (go_at_call 105; with_reducible refine (H1.out _).mono ?_; rintro e w1 ⟨rfl, hb1⟩; have hc1 : Ev W1 w1 := (by first | exact hb1 | exact Ev.trans (Ev.drew (Ev.refl _)) hb1)) | (go_at_call 104; with_reducible refine (HNM1.out _).mono ?_; rintro e w2 ⟨rfl, hb2⟩; have hc2 : Ev W1 w2 := (by first | exact hc1.trans hb2 | exact Ev.trans (Ev.drew hc1) hb2)) | (have hs2 := hc2.size; refine step_append_own rfl (.tmp 17) (.tmp 26) 27 rfl (w.heap.size + 1) 3 i0 _ 1 8 Try.underlying27 hi hz0 hz1 hz2 rfl (by decide) _ k (((ts.take k).map (M.number f x)).flatMap ics) rfl ((hown1.ev hc2).alloc _) ⟨w2.heap.size, 0, none⟩ 1 1 [.int .i64 (M.count t x 0 (f.rows - 1))] rfl rfl (news_in (alloc1 w2 _).1) (by simp [Value.oneCell']) (by unfold maxLen; omega) (by omega) (by simp; omega) ?_; intro v' w3 hown' hgrow _; have hP3 := HGR.out _ _ (hc2.alloc _) hgrow))
      go_wp2
      have hE3 := Ev.grown ((hEw.trans hc2).alloc _) hgrow (fun k e => by have := (hlt2.out k e).1; omega)
      refine ⟨⟨k + 1, by go_num, by omega, hE3, hid ((hP3.1.block _ (by omega)).trans (hE1.heap hQ.out)), ?_⟩, by simp [intOf]; omega⟩
      rw [show ts.take (k + 1) = ts.take k ++ [t] from by rw [List.take_add_one, HX.out]; rfl, List.map_append, List.flatMap_append]
      exact hown'
    · have hkn : k = n1 := by omega
      subst hkn
      have htl := HW.out.tru.len
      have htk : ts.take k = ts := List.take_of_length_le (by omega)
      rw [htk] at hown
      obtain ⟨D, d, rfl, hsl⟩ := Sl.of_own (enc := ics) (sz := 1) (by decide) (fun _ _ => rfl) hsm hown
      obtain ⟨b, off, y, rfl, hbD, hy, hyd, hyc⟩ := hsl.int (Below.refl _ _) hne
      have hcap := hsl.cap
      obtain ⟨m, rfl⟩ : ∃ m, k = m + 1 := ⟨k - 1, by omega⟩
      obtain ⟨r, hxs⟩ : ∃ r, ts.map (M.number f x) = y :: r := ⟨_, hyd⟩
      rw [hxs] at hsl
      have hbd : M.bounds f x ts = ⟨M.least y r, M.most y r⟩ := by unfold M.bounds; rw [hxs]
      have HBD := hid hbd
      obtain ⟨T, hts, htsa, hst⟩ := tail1 hsl
      have hl : ∀ W, Ev wr W → Calls Try.prog 88 #[.int .i64 y, .slice T m (d - 1)] W fun e w' => e = .returned (.int .i64 (M.least y r)) ∧ Ev W w' := fun W hE => least_c y _ _ _ r W (hst.ev hE)
      have hm : ∀ W, Ev wr W → Calls Try.prog 107 #[.slice (some ⟨b, off, none⟩) (m + 1) d] W fun e w' => e = .returned (.int .i64 (M.most y r)) ∧ Ev W w' := fun W hE => most_c _ _ _ y r W (hsl.ev hE)
      have HL := hid hl
      have HM := hid hm
      obtain ⟨q0, q1⟩ : wr.cell? ⟨w.heap.size, 0, none⟩ = some (.int .i64 0) ∧ wr.cell? ⟨w.heap.size, 1, none⟩ = some (.int .i64 0) := ⟨cell_in hQ.out 0, cell_in hQ.out 1⟩
      have hz0 := frozen_in hQ.out 0
      have hz1 := frozen_in hQ.out 1
      have hQl := heap_lt hQ.out
      have hbn : w.heap.size + 1 ≤ b := (hown.lt b rfl).1
      have HSE : Hid (∀ w', Ev wr w' → Below w.heap.size wr w' ∧ (∀ o, w'.cell? ⟨b, o, none⟩ = wr.cell? ⟨b, o, none⟩) ∧ (∀ o, w'.frozen? ⟨w.heap.size, o, none⟩ = wr.frozen? ⟨w.heap.size, o, none⟩)) := hid (fun w' h => ⟨Below.evr h (by omega), fun o => h.cells.1 _ o hbD, fun o => h.cells.2 _ o hQl⟩)
      have HST : Hid (∀ w' v1 v2, Ev wr w' → Below w.heap.size wr ((w'.setCell ⟨w.heap.size, 0, none⟩ v1).setCell ⟨w.heap.size, 1, none⟩ v2) ∧ (∀ o, ((w'.setCell ⟨w.heap.size, 0, none⟩ v1).setCell ⟨w.heap.size, 1, none⟩ v2).cell? ⟨b, o, none⟩ = wr.cell? ⟨b, o, none⟩) ∧ (∀ o, ((w'.setCell ⟨w.heap.size, 0, none⟩ v1).setCell ⟨w.heap.size, 1, none⟩ v2).frozen? ⟨w.heap.size, o, none⟩ = wr.frozen? ⟨w.heap.size, o, none⟩)) := hid (fun w' v1 v2 h => ⟨Below.setCell (Below.setCell (Below.evr h (by omega)) (by simp) _) (by simp) _, fun o => by
        exact (World.cell?_of_block (w := w') ((Below.heap_setCell _ _ _ b (show b ≠ w.heap.size by omega)).trans (Below.heap_setCell _ _ _ b (show b ≠ w.heap.size by omega)))).trans (h.cells.1 b o hbD), fun o => by
        have h1 := h.cells.2 w.heap.size o hQl
        rw [← h1]
        simp⟩)
      clear hl hm hsl hst hyd hy htk hxs hbd
      simp only [Nat.add_zero] at hyc
      go_wp2
      go_region_held3 (fun w' => Below w.heap.size wr w' ∧ (∀ o, w'.cell? ⟨b, o, none⟩ = wr.cell? ⟨b, o, none⟩) ∧ (∀ o, w'.frozen? ⟨w.heap.size, o, none⟩ = wr.frozen? ⟨w.heap.size, o, none⟩)) (first | (exact HST.out _ _ _ hc2) | (exact HSE.out _ (by repeat (first | with_reducible exact Ev.refl wr | (with_reducible assumption) | with_reducible refine Ev.drew ?_ | with_reducible refine Ev.alloc ?_ _)))) (first | (go_at_call 88; with_reducible refine (HL.out _ (by first | exact Ev.refl _ | exact Ev.drew (Ev.refl _))).mono ?_; rintro e w1 ⟨rfl, hb1⟩; have hc1 : Ev wr w1 := (by first | exact hb1 | exact Ev.trans (Ev.drew (Ev.refl _)) hb1)) | (go_at_call 107; with_reducible refine (HM.out _ (by first | exact hc1 | exact Ev.drew hc1)).mono ?_; rintro e w2 ⟨rfl, hb2⟩; have hc2 : Ev wr w2 := (by first | exact hc1.trans hb2 | exact Ev.trans (Ev.drew hc1) hb2); have g0 := (hc2.cells.1 _ 0 hQl).trans q0; have g1 := (hc2.cells.1 _ 1 hQl).trans q1; have g2 := (hc2.cells.2 _ 0 hQl).trans hz0; have g3 := (hc2.cells.2 _ 1 hQl).trans hz1))
      have hS := (HST.out w2 (.int .i64 (M.least y r)) (.int .i64 (M.most y r)) hc2).1
      have hF := set_heap_same (j := 1) (v := .int .i64 (M.most y r)) (set_heap_same (j := 0) (v := .int .i64 (M.least y r)) (hc2.heap hQ.out))
      have x0 := cell_in hF 0
      have x1 := cell_in hF 1
      simp only [List.setIfInBounds_toArray, List.set_cons_zero, List.set_cons_succ, List.getElem?_toArray, List.getElem?_cons_zero, List.getElem?_cons_succ] at x0 x1
      clear hF
      generalize ((w2.setCell ⟨w.heap.size, 0, none⟩ (.int .i64 (M.least y r))).setCell ⟨w.heap.size, 1, none⟩ (.int .i64 (M.most y r))) = WF at x0 x1 hS ⊢
      go_wp2
      refine bodyPost_ret (v := .agg #[.int .i64 (M.least y r), .int .i64 (M.most y r)]) (by simp [results, Try.results76, go_sem, x0, x1]) rfl ⟨by rw [HBD.out], Below.trans hB hS⟩

end Go.Proofs.Ytcecmphdmpeibaa

namespace Go.Proofs.Ytcecmphdmpeibaa
open Go.RowKit

def M.agreeAll (e : Nat) (fs : List (List Bool)) : Bool := fs.any (M.agree1 e)
def M.sparesAll (l : List Int) (fs : List (List Bool)) : Bool := fs.any (M.spares1 l)

set_option maxRecDepth 100000 in
set_option maxHeartbeats 1000000 in
theorem agree_c (p : Nat) (k : Nat) (he : k ≤ 5) (f : M.Fl) (ts : List (List Int)) (fs : List (List Bool)) (A A1 A2 : Option Addr) (n c n1 c1 n2 c2 : Nat) (w : World) (hw : Wk w p f ts fs A A1 A2 n c n1 c1 n2 c2) :
    Calls Try.prog 92 #[.pointer (some ⟨p, 0, none⟩), .int .i64 k] w fun e w' => e = .returned (.bool (M.agreeAll k fs)) ∧ Ev w w' := by
  have hcall : ∀ W0, Ev w W0 → W0.heap[w.heap.size]? = some (.cells #[.int .i64 k] 3 (0, 0)) →
      Calls Try.prog 119 #[.slice A2 n2 c2, .func (.func 120) #[] #[.pointer (some ⟨w.heap.size, 0, none⟩)]] W0 fun e w' => e = .returned (.bool (M.agreeAll k fs)) ∧ Ev W0 w' := by
    intro W0 hE hq0
    refine confnF_c A2 n2 c2 120 [.pointer (some ⟨w.heap.size, 0, none⟩)] (M.agree1 k) fs hw.f5 W0 ((hw.ev hE).fau) (fun args w => Try.call120 args w) ?_
    intro t W ht hEW
    exact agree1_c k w.heap.size he t ht W (cell_in (hEW.heap hq0) 0) (heap_lt (hEW.heap hq0))
  have HC := hid hcall
  have hpl := heap_lt hw.blk
  obtain ⟨k0, k1, k2, k3, k4, k5, k6⟩ := cells7 hw.blk
  clear hcall
  go_enter Try.func92, Try.ntmps92
  go_wp2_with (go_at_call 119; have hal := alloc1 w (.cells #[.int .i64 k] 3); with_reducible refine (HC.out _ (Ev.alloc (Ev.refl _) _) hal.1).mono ?_; clear hal; rintro e w1 ⟨rfl, hb1⟩)
  go_ret
  exact ⟨rfl, Ev.trans (Ev.alloc (Ev.refl _) _) hb1⟩

set_option maxRecDepth 100000 in
set_option maxHeartbeats 1000000 in
theorem spares_c (p : Nat) (B : Option Addr) (m d : Nat) (l : List Int) (hl : ∀ i ∈ l, 0 ≤ i ∧ i < 5) (f : M.Fl) (ts : List (List Int)) (fs : List (List Bool)) (A A1 A2 : Option Addr) (n c n1 c1 n2 c2 : Nat) (w : World) (hw : Wk w p f ts fs A A1 A2 n c n1 c1 n2 c2) (hs : Sl ics 1 w w.heap.size B m d l) :
    Calls Try.prog 93 #[.pointer (some ⟨p, 0, none⟩), .slice B m d] w fun e w' => e = .returned (.bool (M.sparesAll l fs)) ∧ Ev w w' := by
  have hcall : ∀ W0, Ev w W0 → W0.heap[w.heap.size]? = some (.cells #[.slice B m d] 27 (0, 0)) →
      Calls Try.prog 119 #[.slice A2 n2 c2, .func (.func 122) #[] #[.pointer (some ⟨w.heap.size, 0, none⟩)]] W0 fun e w' => e = .returned (.bool (M.sparesAll l fs)) ∧ Ev W0 w' := by
    intro W0 hE hq0
    refine confnF_c A2 n2 c2 122 [.pointer (some ⟨w.heap.size, 0, none⟩)] (M.spares1 l) fs hw.f5 W0 ((hw.ev hE).fau) (fun args w => Try.call122 args w) ?_
    intro t W ht hEW
    exact spares1_c w.heap.size B m d l hl t ht W (cell_in (hEW.heap hq0) 0) (heap_lt (hEW.heap hq0)) (hs.ev (hE.trans hEW))
  have HC := hid hcall
  have hpl := heap_lt hw.blk
  obtain ⟨k0, k1, k2, k3, k4, k5, k6⟩ := cells7 hw.blk
  clear hcall
  go_enter Try.func93, Try.ntmps93
  go_wp2_with (go_at_call 119; have hal := alloc1 w (.cells #[.slice B m d] 27); with_reducible refine (HC.out _ (Ev.alloc (Ev.refl _) _) hal.1).mono ?_; clear hal; rintro e w1 ⟨rfl, hb1⟩)
  go_ret
  exact ⟨rfl, Ev.trans (Ev.alloc (Ev.refl _) _) hb1⟩

def ptrInt (w : World) (u : Value) : Int := match u with
  | .pointer (some a) => (match w.cell? a with
    | some v => intOf v
    | none => 0)
  | _ => 0
theorem ptrInt_of {w : World} {a : Addr} {k : IntKind} {x : Int} (h : w.cell? a = some (.int k x)) : ptrInt w (.pointer (some a)) = x := by
  simp [ptrInt, h, intOf]

def M.whoF (row : Int) (ts : List (List Int)) (x : Int) : Bool := ts.any fun t => t.getD row.toNat 0 == x
def M.whoFrom (row : Int) (ts : List (List Int)) : Nat → Nat → List Int
  | _, 0 => []
  | k, j + 1 => (if M.whoF row ts ((k : Int) - 1) then [(k : Int) - 1] else []) ++ M.whoFrom row ts (k + 1) j
def M.who (f : M.Fl) (row : Int) (ts : List (List Int)) : List Int := M.whoFrom row ts 0 (f.wds + 1).toNat

set_option maxRecDepth 100000 in
set_option maxHeartbeats 2000000 in
theorem who_c (p : Nat) (row : Int) (r0 : 0 ≤ row) (r6 : row ≤ 6) (f : M.Fl) (ts : List (List Int)) (fs : List (List Bool)) (A A1 A2 : Option Addr) (n c n1 c1 n2 c2 : Nat) (w : World) (hw : Wk w p f ts fs A A1 A2 n c n1 c1 n2 c2) :
    Calls Try.prog 80 #[.pointer (some ⟨p, 0, none⟩), .int .i64 row] w fun e w' => (∃ B d, e = .returned (.slice B (M.who f row ts).length d) ∧ Sl ics 1 w' w'.heap.size B (M.who f row ts).length d (M.who f row ts)) ∧ Ev w w' := by
  obtain ⟨i0, hi, hz0, hz1, hz2⟩ := info_parts info3
  have hd1 := hw.d1
  have hd3 := hw.d3
  obtain ⟨dw, hdw⟩ := Int.eq_ofNat_of_zero_le (show 0 ≤ f.wds by omega)
  have hcall : ∀ W0 q x, Ev w W0 → W0.heap[w.heap.size]? = some (.cells #[.int .i64 row] 3 (0, 0)) → W0.heap[q]? = some (.cells #[.int .i64 x] 3 (0, 0)) →
      Calls Try.prog 108 #[.slice A1 n1 c1, .func (.func 109) #[] #[.pointer (some ⟨w.heap.size, 0, none⟩), .pointer (some ⟨q, 0, none⟩)]] W0 fun e w' => e = .returned (.bool (M.whoF row ts x)) ∧ Ev W0 w' := by
    intro W0 q x hE hq0 hq1
    refine confnS_c A1 n1 c1 109 [.pointer (some ⟨w.heap.size, 0, none⟩), .pointer (some ⟨q, 0, none⟩)] (fun t => t.getD row.toNat 0 == x) ts hw.t7 W0 ((hw.ev hE).tru) (fun args w => Try.call109 args w) ?_
    intro t W ht hEW
    exact who1_c row x w.heap.size q r0 r6 t ht W (cell_in (hEW.heap hq0) 0) (cell_in (hEW.heap hq1) 0) (heap_lt (hEW.heap hq0)) (heap_lt (hEW.heap hq1))
  have HC := hid hcall
  have HW := hid hw
  have hpl := heap_lt hw.blk
  clear hcall
  go_enter Try.func80, Try.ntmps80
  go_wp2
  generalize hW0 : World.alloc (World.alloc w _) _ = W0
  have hE0 : Ev w W0 := by rw [← hW0]; exact Ev.alloc (Ev.alloc (Ev.refl _) _) _
  have hal := alloc2 w (.cells #[.int .i64 row] 3) (.cells #[.int .i64 (-1)] 3)
  rw [hW0] at hal
  have Q0 := hid hal.1
  have Q1 := hid hal.2.1
  have hlq := heap_lt hal.2.1
  clear hal hW0
  go_loopw [5, 6] (fun v u wr => ∃ k q : Nat, ∃ ys : List Int, u = .pointer (some ⟨q, 0, none⟩) ∧ k ≤ dw + 1 ∧ Ev w wr ∧ w.heap.size + 1 ≤ q ∧ q < wr.heap.size ∧ Hid (wr.heap[w.heap.size]? = some (.cells #[.int .i64 row] 3 (0, 0))) ∧ Hid (wr.heap[q]? = some (.cells #[.int .i64 ((k : Int) - 1)] 3 (0, 0))) ∧ wr.ownsRow (w.heap.size + 1) 3 1 v ys.length (ys.flatMap ics) ∧ ys.length ≤ k ∧ Hid (v.ownBlock ≠ some q) ∧ Hid (ys ++ M.whoFrom row ts k (dw + 1 - k) = M.who f row ts)) (fun _ u wr => dw + 1 - (ptrInt wr u + 1).toNat)
  case atStart => exact ⟨0, w.heap.size + 1, [], rfl, by omega, hE0, by omega, hlq, Q0, Q1, World.ownsRow_nil _ _ _ _, by simp, hid (by simp [Value.ownBlock]), hid (by unfold M.who; rw [hdw]; rfl)⟩
  case round =>
    obtain ⟨k, q, ys, rfl, hk, hB, hq1, hq2, HR, HQ, hown, hyk, HO, HP⟩ := hrel
    have hQc := cell_in HQ.out 0
    have hmz := ptrInt_of hQc
    have hpr := hB.size
    obtain ⟨k0, k1, k2, k3, k4, k5, k6⟩ := cells7 (hB.heap HW.out.blk)
    simp only [List.getElem?_toArray, List.getElem?_cons_zero] at hQc
    have HMZ := hid hmz
    clear hmz
    by_cases hlt : k < dw + 1
    · have hlt1 : (k : Int) - 1 < f.wds := by omega
      have HLT1 : decide ((k : Int) - 1 < f.wds) = true := by simpa using hlt1
      have hcl : ∀ nq, Calls Try.prog 108 #[.slice A1 n1 c1, .func (.func 109) #[] #[.pointer (some ⟨w.heap.size, 0, none⟩), .pointer (some ⟨q, 0, none⟩)]] (wr.drewN nq) fun e w' => e = .returned (.bool (M.whoF row ts ((k : Int) - 1))) ∧ Ev wr w' := fun nq => Calls.mono (HC.out (wr.drewN nq) q ((k : Int) - 1) (hB.drewN nq) HR.out HQ.out) (fun _ _ h => ⟨h.1, Ev.trans (Ev.drewN (Ev.refl wr) nq) h.2⟩)
      have HCL := hid hcl
      have HF : Hid (M.whoFrom row ts k (dw + 1 - k) = (if M.whoF row ts ((k : Int) - 1) then [(k : Int) - 1] else []) ++ M.whoFrom row ts (k + 1) (dw + 1 - (k + 1))) := hid (by rw [show dw + 1 - k = (dw + 1 - (k + 1)) + 1 from by omega]; rfl)
      clear hcl
      cases hwho : M.whoF row ts ((k : Int) - 1) with
      | true =>
        have HWH := hid hwho
        rw [hwho] at HCL
        clear hwho
        go_wp2_with (first | (go_quiet (fail)) | (go_at_call 108; with_reducible refine (HCL.out _).mono ?_; rintro e w1 ⟨rfl, hb1⟩; have hs1 := hb1.size; obtain q1 := cell_in (hb1.heap HQ.out) 0; simp only [List.getElem?_toArray, List.getElem?_cons_zero] at q1) | (at_builtin; refine wpList_append_own _ rfl (.tmp 22) (.tmp 24) 27 rfl (w.heap.size + 1) 3 i0 _ 1 8 Try.underlying27 hi hz0 hz1 hz2 rfl (by decide) _ ys.length (ys.flatMap ics) rfl ((hown.ev hb1).alloc _) ⟨w1.heap.size, 0, none⟩ 1 1 [.int .i64 ((k : Int) - 1)] rfl rfl (news_in (alloc1 w1 _).1) (by simp [Value.oneCell']) (by unfold maxLen; omega) (by omega) (by simp; omega) ?_; intro v' w3 hown' hgrow _; have hlt3 := hown'.lt; have Q3 : w3.heap[q]? = some (.cells #[.int .i64 ((k : Int) - 1)] 3 (0, 0)) := (hgrow.block q (by simp; omega) (fun e => HO.out e.symm)).trans ((Ev.alloc (Ev.refl w1) _).heap (hb1.heap HQ.out)); have q3 := cell_in Q3 0; simp only [List.getElem?_toArray, List.getElem?_cons_zero] at q3))
        have hE3 : Ev w w3 := Ev.grown ((hB.trans hb1).alloc _) hgrow (fun k e => by have := (hown.lt k e).1; omega)
        have HR3 : w3.heap[w.heap.size]? = some (.cells #[.int .i64 row] 3 (0, 0)) := (hgrow.block _ (by simp; omega) (fun e => by have := (hown.lt _ e.symm).1; omega)).trans ((Ev.alloc (Ev.refl w1) _).heap (hb1.heap HR.out))
        have hs1 : w.heap.size + 1 ≤ w3.heap.size := Nat.le_trans (by simp; omega) hgrow.size
        have hpos : ((w3).alloc (.cells #[.int .i64 (k : Int)] 3)).heap[(w3).heap.size]? = some (.cells #[.int .i64 (k : Int)] 3 (0, 0)) := (alloc1 _ _).1
        have hck := cell_in hpos 0
        simp only [List.getElem?_toArray, List.getElem?_cons_zero] at hck
        have hlast := hown'.lt
        have hsz3 := hE3.size
        refine ⟨⟨k + 1, (w3).heap.size, ys ++ [(k : Int) - 1], rfl, by omega, hE3.alloc _, by omega, by simp, hid (heap_old _ HR3), hid (by rw [show ((k + 1 : Nat) : Int) - 1 = k from by omega]; exact hpos), ?_, by simp; omega, hid (fun e => absurd (hlast _ e).2 (Nat.lt_irrefl _)), hid ?_⟩, by rw [ptrInt_of hck, HMZ.out]; omega⟩
        · rw [List.flatMap_append, List.length_append]; exact hown'.alloc _
        · rw [← HP.out, HF.out, HWH.out, if_pos rfl, List.append_assoc]
      | false =>
        have HWH := hid hwho
        rw [hwho] at HCL
        clear hwho
        go_wp2_with (first | (go_quiet (fail)) | (go_at_call 108; with_reducible refine (HCL.out _).mono ?_; rintro e w1 ⟨rfl, hb1⟩; have hs1 := hb1.size; obtain q1 := cell_in (hb1.heap HQ.out) 0; simp only [List.getElem?_toArray, List.getElem?_cons_zero] at q1))
        have hE3 : Ev w w1 := hB.trans hb1
        have HR3 := hb1.heap HR.out
        have hown' := hown.ev hb1
        have hpos : ((w1).alloc (.cells #[.int .i64 (k : Int)] 3)).heap[(w1).heap.size]? = some (.cells #[.int .i64 (k : Int)] 3 (0, 0)) := (alloc1 _ _).1
        have hck := cell_in hpos 0
        simp only [List.getElem?_toArray, List.getElem?_cons_zero] at hck
        have hlast := hown'.lt
        have hsz3 := hE3.size
        refine ⟨⟨k + 1, (w1).heap.size, ys, rfl, by omega, hE3.alloc _, by omega, by simp, hid (heap_old _ HR3), hid (by rw [show ((k + 1 : Nat) : Int) - 1 = k from by omega]; exact hpos), ?_, by omega, hid (fun e => absurd (hlast _ e).2 (Nat.lt_irrefl _)), hid ?_⟩, by rw [ptrInt_of hck, HMZ.out]; omega⟩
        · exact hown'.alloc _
        · rw [← HP.out, HF.out, HWH.out, if_neg (by decide), List.nil_append]
    · have hk1 : k = dw + 1 := by omega
      subst hk1
      have hlt1 : ¬ ((((dw + 1 : Nat) : Int) - 1) < f.wds) := by omega
      have hp := HP.out
      rw [Nat.sub_self] at hp
      simp only [M.whoFrom, List.append_nil] at hp
      obtain ⟨D, d, rfl, hsl⟩ := Sl.of_own (enc := ics) (sz := 1) (by decide) (fun _ _ => rfl) (by omega) hown
      have HPP := hid hp
      have HSL := hid hsl
      clear hp hsl
      go_wp2_with (go_quiet (fail))
      go_ret
      rw [← HPP.out]
      exact ⟨⟨D, d, rfl, HSL.out.ev (Ev.drewN (Ev.refl _) _)⟩, hB.drewN _⟩

end Go.Proofs.Ytcecmphdmpeibaa

namespace Go.Proofs.Ytcecmphdmpeibaa
open Go.RowKit

/-- All blocks but those from A to B lie as they lay. -/
structure Bar (A B : Nat) (X Y : World) : Prop where
  os : Y.os = X.os
  tape : Y.tape = X.tape
  output : Y.output = X.output
  size : X.heap.size ≤ Y.heap.size
  block : ∀ k, k < X.heap.size → ¬ (A ≤ k ∧ k < B) → Y.heap[k]? = X.heap[k]?

theorem Bar.refl (A B : Nat) (X : World) : Bar A B X X := ⟨rfl, rfl, rfl, Nat.le_refl _, fun _ _ _ => rfl⟩
theorem Bar.trans {A B : Nat} {X Y Z : World} (h : Bar A B X Y) (k : Bar A B Y Z) : Bar A B X Z :=
  ⟨k.os.trans h.os, k.tape.trans h.tape, k.output.trans h.output, Nat.le_trans h.size k.size, fun i hi hn => (k.block i (Nat.lt_of_lt_of_le hi h.size) hn).trans (h.block i hi hn)⟩
theorem Bar.wider {A A' B : Nat} {X Y : World} (h : Bar A B X Y) (hA : A' ≤ A) : Bar A' B X Y := ⟨h.os, h.tape, h.output, h.size, fun k hk hn => h.block k hk (by omega)⟩
theorem Bar.ev {A B : Nat} {X Y : World} (h : Ev X Y) : Bar A B X Y := ⟨h.os, h.tape, h.output, h.size, fun k hk _ => h.block k hk⟩
theorem Bar.setCell {A B : Nat} {X : World} {p : Addr} (v : Value) (h1 : A ≤ p.block) (h2 : p.block < B) : Bar A B X (X.setCell p v) :=
  ⟨rfl, rfl, rfl, by simp [World.setCell], fun k _ hn => Below.heap_setCell _ _ _ _ (by rintro rfl; exact hn ⟨h1, h2⟩)⟩
theorem Bar.putObj {A B : Nat} {X : World} {l : Nat} (o : Obj) (h1 : A ≤ l) (h2 : l < B) : Bar A B X (X.putObj l o) :=
  ⟨rfl, rfl, rfl, by simp, fun k _ hn => World.putObj_heap_other (by rintro rfl; exact hn ⟨h1, h2⟩)⟩
theorem Bar.below {A B n : Nat} {X Y : World} (h : Bar A B X Y) (hn : n ≤ A) (hx : n ≤ X.heap.size) : Below n X Y :=
  ⟨h.os, h.tape, h.output, h.size, fun k hk => h.block k (by omega) (by omega)⟩

/-- What a caller says between two rounds outlasts whatever the iterator does with blocks of its own. -/
def Abides {β : Type} (A : Nat) (I : Nat → β → World → Prop) : Prop := ∀ B s X Y, A ≤ B → I B s X → Bar A B X Y → I B s Y

/-- What a round keeps for the iterator: the iterator's own blocks, and those that it reads. -/
structure Kept (R : Nat → Prop) (A B : Nat) (X Y : World) : Prop where
  size : X.heap.size ≤ Y.heap.size
  block : ∀ k, k < X.heap.size → (R k ∨ (A ≤ k ∧ k < B)) → Y.heap[k]? = X.heap[k]?

theorem Kept.trans {R : Nat → Prop} {A B : Nat} {X Y Z : World} (h : Kept R A B X Y) (k : Kept R A B Y Z) : Kept R A B X Z :=
  ⟨Nat.le_trans h.size k.size, fun i hi hn => (k.block i (Nat.lt_of_lt_of_le hi h.size) hn).trans (h.block i hi hn)⟩

/-- The contract of an iterator that hands over the list xs: from a world in which it lays its own blocks (up to B). -/
def SeqX {α : Type} (F : Fence) (n : Nat) (P : Program) (g : Nat) (lb : Array Value) (encs : Nat → α → Array Value) (Hx : Nat → Nat → α → World → Prop) (R : Nat → Prop) (xs : List α) (w : World) : Prop :=
  ∀ (l : Nat) (J Jx : Nat → List α → World → Prop) (W : World), Below w.heap.size w W → Abides W.heap.size J → Abides W.heap.size Jx →
    (∀ B pre x W1, W.heap.size ≤ B → B ≤ W1.heap.size → J B pre W1 → Hx W.heap.size B x W1 → pre ++ [x] <+: xs → YieldAt F (n - 1) P l (encs W.heap.size x) W1 fun e W' =>
      (e = .returned (.bool true) ∧ J B (pre ++ [x]) W' ∧ Kept R W.heap.size B W1 W') ∨ (e = .returned (.bool false) ∧ Jx B (pre ++ [x]) W')) →
    (∀ W', Ev W W' → J W'.heap.size [] W') →
    CallsIn F n P g (#[.func (.yield l) #[] #[]] ++ lb) W fun e W' => (∃ v, e = .returned v) ∧ ∃ B, W.heap.size ≤ B ∧ (J B xs W' ∨ ∃ pre, pre <+: xs ∧ Jx B pre W')

/-- How a round's body may end. -/
def postX {α : Type} (R : Nat → Prop) (A B : Nat) (I : Nat → List α → World → Prop) (Ix : Nat → Code → List α → World → Prop) (xs : List α) (W : World) : Exit → Act → World → Prop
  | .normal, _, W' => Kept R A B W W' ∧ I B xs W'
  | .ret, _, W' => Kept (fun _ => False) A B W W' ∧ Ix B .ret xs W'
  | .exit id, _, W' => Kept (fun _ => False) A B W W' ∧ Ix B (.exit id) xs W'
  | .goto t, _, W' => Kept (fun _ => False) A B W W' ∧ Ix B (.goto t) xs W'
  | .panic _, _, _ => False
  | .outgrown, _, _ => False

theorem rangeX {F : Fence} {n : Nat} {P : Program} {α : Type} {g : Operand} {ps : Array Tmp} {assign body : Code} {Q : Exit → Act → World → Prop} {a : Act} {w : World}
    (hro : F.round = none) (h1 : 1 ≤ n) {gf : Nat} {lb : Array Value} (hg : a.eval g = .func (.func gf) #[] lb) (hFg : F.fn gf) (eg : ∀ args w, (callFunc gf args).run P w = .ok (.enter gf args) w)
    {encs : Nat → α → Array Value} {Hx : Nat → Nat → α → World → Prop} {R : Nat → Prop} {xs : List α} {w0 : World} (hseq : SeqX F (n - 1) P gf lb encs Hx R xs w0) (hb0 : Below w0.heap.size w0 w) (hR : ∀ k, R k → k < w.heap.size) (hps : ∀ x, (encs (w.heap.size + 2) x).size = ps.size)
    (hHx : ∀ A B x X Y, Hx A B x X → (∀ k, A ≤ k → k < B → Y.heap[k]? = X.heap[k]?) → Hx A B x Y)
    (I : Nat → List α → World → Prop) (Ix : Nat → Code → List α → World → Prop) (Ax : Nat → α → Act → World → Prop)
    (hI : Abides w.heap.size I) (hIx : ∀ c, Abides w.heap.size (fun B => Ix B c)) (hAx : ∀ a', Abides w.heap.size (fun B x => Ax B x a'))
    (h0 : ∀ W', Ev w W' → I W'.heap.size [] W')
    (hassign : ∀ (l B : Nat) (pre : List α) (x : α) (W : World) (K : Act → World → Prop), w.heap.size + 2 ≤ B → B ≤ W.heap.size → I B pre W → Hx (w.heap.size + 2) B x W → (∀ a' W', Ev W W' → Ax B x a' W' → K a' W') →
      assign.wpIn (F.inRound l) (n - 1 - 1) P (Exit.then K (fun _ _ _ => False)) { tmps := (ps.zip (encs (w.heap.size + 2) x)).foldl (fun t (p, v) => t.setIfInBounds p v) a.tmps, defers := [] } W)
    (hbody : ∀ (l B : Nat) (pre : List α) (x : α) (a' : Act) (W : World), w.heap.size + 2 ≤ B → B ≤ W.heap.size → I B pre W → Ax B x a' W → Hx (w.heap.size + 2) B x W → pre ++ [x] <+: xs → body.wpIn (F.inRound l) (n - 1 - 1) P (postX R w.heap.size B I Ix (pre ++ [x]) W) a' W)
    (hdone : ∀ (B : Nat) (W : World), w.heap.size + 2 ≤ B → I B xs W → W.heap[w.heap.size]? = some (.deferred (some [])) → Q .normal { a with defers := { target := .collected w.heap.size, args := #[] } :: a.defers } W)
    (hstop : ∀ (B : Nat) (c : Code) (pre : List α) (W : World), w.heap.size + 2 ≤ B → pre <+: xs → Ix B c pre W → W.heap[w.heap.size]? = some (.deferred (some [])) → c.wpIn F n P Q { a with defers := { target := .collected w.heap.size, args := #[] } :: a.defers } W) :
    (Code.rangeFunc g ps assign body).wpIn F n P Q a w := by
  refine wpIn_rangeFunc fun fn hfn => ?_
  rw [hro]
  obtain ⟨rec, hrec⟩ : ∃ rec : LoopState → Option Code → Loop, rec = fun st pe => { state := st, pending := pe, fn, tmps := a.tmps, params := ps, assign, body, defers := w.heap.size } := ⟨_, rfl⟩
  obtain ⟨V, hV⟩ : ∃ V, (w.alloc (.deferred (some []))).alloc (.loop (rec .ready none)) = V := ⟨_, rfl⟩
  have hVe : Ev w V := by rw [← hV]; exact Ev.alloc (Ev.alloc (Ev.refl _) _) _
  have hal := alloc2 w (.deferred (some [])) (.loop (rec .ready none))
  rw [hV] at hal
  obtain ⟨hD, hL, hVs⟩ := hal
  refine ⟨w.heap.size + 1, [{ target := .collected w.heap.size, args := #[] }], V, { target := .fn (.func gf) lb, args := #[.func (.yield (w.heap.size + 1)) #[] #[]] }, V, gf,
    #[.func (.yield (w.heap.size + 1)) #[] #[]] ++ lb, V, ?_, ?_, ?_, ?_, fun _ => h1, ?_⟩
  · rw [← hV, hrec]; exact run_enterLoop_outer _ _ _ _ _
  · simp only [resolve, hg]
    simp [go_sem]
  · intro f' hf'; simp [Target.leads] at hf'; subst hf'; exact hFg
  · simp [invoke, go_sem, eg]
  have out : ∀ {B : Nat} {X Y : World}, V.heap.size ≤ B → Bar V.heap.size B X Y → Bar w.heap.size B X Y := fun _ h => h.wider (by omega)
  have keep : ∀ {B k : Nat} {X Y : World} {o : Obj}, Bar V.heap.size B X Y → k < V.heap.size → X.heap[k]? = some o → Y.heap[k]? = some o := fun h hk ho => (h.block _ (Array.getElem?_eq_some_iff.1 ho).1 (by omega)).trans ho
  refine (hseq (w.heap.size + 1)
    (fun B pre W => I B pre W ∧ W.heap[w.heap.size + 1]? = some (.loop (rec .ready none)) ∧ W.heap[w.heap.size]? = some (.deferred (some [])))
    (fun B pre W => ∃ c, Ix B c pre W ∧ W.heap[w.heap.size + 1]? = some (.loop (rec .done (some c))) ∧ W.heap[w.heap.size]? = some (.deferred (some [])))
    V (hb0.trans (Below.evr hVe hb0.size))
    (fun B s X Y hB ⟨h, hl, hd⟩ hb => ⟨hI B s X Y (by omega) h (out hB hb), keep hb (by omega) hl, keep hb (by omega) hd⟩)
    (fun B s X Y hB ⟨c, h, hl, hd⟩ hb => ⟨c, hIx c B s X Y (by omega) h (out hB hb), keep hb (by omega) hl, keep hb (by omega) hd⟩)
    ?_ (fun W' hW' => ⟨h0 W' (hVe.trans hW'), hW'.heap hL, hW'.heap hD⟩)).mono ?_
  · rintro B pre x W hB hBW ⟨hi, hl, hd⟩ hhx hpre
    rw [hVs] at hhx ⊢
    have hy := run_yield (P := P) (args := encs (w.heap.size + 2) x) hl (by rw [hrec]; exact hps x)
    rw [hrec] at hy
    refine ⟨fn, _, assign, body, hy, roundIn_of_wpIn hfn (hassign _ B pre x W _ (by omega) hBW hi hhx ?_)⟩
    intro a' Wa hEa hax
    have hia := hI B pre W Wa (by omega) hi (Bar.ev hEa)
    have hla := hEa.heap hl
    have hda := hEa.heap hd
    have hlt := (Array.getElem?_eq_some_iff.1 hla).1
    refine ⟨_, run_beginRound hla (by rw [hrec]), ?_⟩
    generalize hWb : Wa.putObj (w.heap.size + 1) (.loop { rec .ready none with state := .busy }) = Wb
    have hbb : Bar w.heap.size B Wa Wb := by rw [← hWb]; exact Bar.putObj _ (by omega) (by omega)
    have hlb : Wb.heap[w.heap.size + 1]? = some (.loop { rec .ready none with state := .busy }) := by rw [← hWb]; exact World.putObj_heap_same hlt
    have hdb : Wb.heap[w.heap.size]? = some (.deferred (some [])) := by rw [← hWb]; exact (World.putObj_heap_other (by omega)).trans hda
    have hsb : Wb.heap.size = Wa.heap.size := by rw [← hWb]; simp
    have hoth : ∀ k, k ≠ w.heap.size + 1 → Wb.heap[k]? = Wa.heap[k]? := fun k hk => by rw [← hWb]; exact World.putObj_heap_other hk
    refine wpIn_mono (hbody _ B pre x a' Wb (by omega) (by have := hEa.size; omega) (hI B pre _ _ (by omega) hia hbb) (hAx a' B x _ _ (by omega) hax hbb) (hHx _ _ _ _ _ hhx (fun k h1 h2 => (hoth k (by omega)).trans (hEa.block k (by omega)))) hpre) ?_
    have fin : ∀ (R' : Nat → Prop) (jump : Option Code) (W3 : World), Kept R' w.heap.size B Wb W3 → ∃ W4, W4 = W3.putObj (w.heap.size + 1) (.loop (rec (if jump.isNone then .ready else .done) jump)) ∧
        (Instr.endRound (w.heap.size + 1) jump).run P W3 = .ok (.bool jump.isNone) W4 ∧ Bar w.heap.size B W3 W4 ∧
        W4.heap[w.heap.size + 1]? = some (.loop (rec (if jump.isNone then .ready else .done) jump)) ∧ W4.heap[w.heap.size]? = some (.deferred (some [])) := fun R' jump W3 hk3 => by
      have hl3 : W3.heap[w.heap.size + 1]? = some (.loop { rec .ready none with state := .busy }) := (hk3.block _ (by omega) (.inr (by omega))).trans hlb
      have hd3 : W3.heap[w.heap.size]? = some (.deferred (some [])) := (hk3.block _ (by omega) (.inr (by omega))).trans hdb
      have he := run_endRound (P := P) jump hl3
      rw [hrec] at he ⊢
      exact ⟨_, rfl, he, Bar.putObj _ (by omega) (by omega), World.putObj_heap_same (Array.getElem?_eq_some_iff.1 hl3).1, (World.putObj_heap_other (by omega)).trans hd3⟩
    rintro e a3 W3 hp
    cases e with
    | normal =>
      obtain ⟨hk3, hi3⟩ := hp
      obtain ⟨W4, hW4, hr, hb4, hl4, hd4⟩ := fin R none W3 hk3
      refine ⟨_, _, hr, .inl ⟨rfl, ⟨hI _ _ _ _ (by omega) hi3 hb4, hl4, hd4⟩, ⟨?_, fun k hk hor => ?_⟩⟩⟩
      · have := hb4.size; have := hk3.size; have := hEa.size; omega
      · have hk1 : k ≠ w.heap.size + 1 := by
          rcases hor with hr | hr
          · have := hR k hr; omega
          · omega
        have hkk : R k ∨ (w.heap.size ≤ k ∧ k < B) := by
          rcases hor with hr | hr
          · exact .inl hr
          · exact .inr (by omega)
        rw [hW4, World.putObj_heap_other hk1, hk3.block k (by have := hEa.size; omega) hkk, hoth k hk1]
        exact hEa.block k hk
    | ret =>
      obtain ⟨hk3, hi3⟩ := hp
      obtain ⟨W4, _, hr, hb4, hl4, hd4⟩ := fin _ (some .ret) W3 hk3
      exact ⟨_, _, hr, .inr ⟨rfl, .ret, hIx _ _ _ _ _ (by omega) hi3 hb4, hl4, hd4⟩⟩
    | exit id =>
      obtain ⟨hk3, hi3⟩ := hp
      obtain ⟨W4, _, hr, hb4, hl4, hd4⟩ := fin _ (some (.exit id)) W3 hk3
      exact ⟨_, _, hr, .inr ⟨rfl, .exit id, hIx _ _ _ _ _ (by omega) hi3 hb4, hl4, hd4⟩⟩
    | goto t =>
      obtain ⟨hk3, hi3⟩ := hp
      obtain ⟨W4, _, hr, hb4, hl4, hd4⟩ := fin _ (some (.goto t)) W3 hk3
      exact ⟨_, _, hr, .inr ⟨rfl, .goto t, hIx _ _ _ _ _ (by omega) hi3 hb4, hl4, hd4⟩⟩
    | panic ch => exact hp.elim
    | outgrown => exact hp.elim
  · rintro e W2 ⟨⟨v, rfl⟩, B, hB, ⟨hi, hl, hd⟩ | ⟨pre, hpre, c, hi, hl, hd⟩⟩
    · exact ⟨none, _, by have := run_endLoop (P := P) hl (by rw [hrec]; simp); rw [hrec] at this; exact this, hdone B _ (by omega) (hI _ _ _ _ (by omega) hi (Bar.putObj _ (by omega) (by omega))) ((World.putObj_heap_other (by omega)).trans hd)⟩
    · exact ⟨some c, _, by have := run_endLoop (P := P) hl (by rw [hrec]; simp); rw [hrec] at this; exact this, hstop B c pre _ (by omega) hpre (hIx _ _ _ _ _ (by omega) hi (Bar.putObj _ (by omega) (by omega))) ((World.putObj_heap_other (by omega)).trans hd)⟩

end Go.Proofs.Ytcecmphdmpeibaa

namespace Go.Proofs.Ytcecmphdmpeibaa
open Go.RowKit Go.Shelf
attribute [local go_sem] Oper.semAt_some

def M.incr (sz : Nat) : Nat → Nat → List (List Int)
  | 0, _ => [[]]
  | j + 1, frm => (List.range' frm (sz - frm)).flatMap fun (k : Nat) => (M.incr sz j (k + 1)).map ((k : Int) :: ·)

/-- The cells of the iterator over rising lists: its own four blocks from A on, and the two numbers that it has captured. -/
structure IncS (A pl ps L sz l : Nat) (y : List Int) (W : World) : Prop where
  len : W.heap[pl]? = some (.cells #[.int .i64 L] 3 (0, 0))
  siz : W.heap[ps]? = some (.cells #[.int .i64 sz] 3 (0, 0))
  yld : W.heap[A]? = some (.cells #[.func (.yield l) #[] #[]] 119 (0, 0))
  arr : W.heap[A + 1]? = some (.cells (y.map (Value.int .i64)).toArray 3 (0, 0))
  lst : W.heap[A + 2]? = some (.cells #[.slice (some ⟨A + 1, 0, none⟩) L L] 27 (0, 0))
  cho : W.heap[A + 3]? = some (.cells #[.func (.func 125) #[] #[.pointer (some ⟨pl, 0, none⟩), .pointer (some ⟨A, 0, none⟩), .pointer (some ⟨A + 2, 0, none⟩), .pointer (some ⟨ps, 0, none⟩), .pointer (some ⟨A + 3, 0, none⟩)]] 164 (0, 0))
  ylen : y.length = L

theorem IncS.kept {A pl ps L sz l : Nat} {y : List Int} {X Y : World} {R : Nat → Prop} {B : Nat} (h : IncS A pl ps L sz l y X) (hk : Kept R A B X Y) (h1 : R pl) (h2 : R ps) (hB : A + 4 ≤ B) : IncS A pl ps L sz l y Y :=
  have g : ∀ {k : Nat} {o : Obj}, X.heap[k]? = some o → (R k ∨ (A ≤ k ∧ k < B)) → Y.heap[k]? = some o := fun h0 hor => (hk.block _ (heap_lt h0) hor).trans h0
  ⟨g h.len (.inl h1), g h.siz (.inl h2), g h.yld (.inr (by omega)), g h.arr (.inr (by omega)), g h.lst (.inr (by omega)), g h.cho (.inr (by omega)), h.ylen⟩

def incE (L : Nat) (A : Nat) (_ : List Int) : Array Value := #[.slice (some ⟨A + 1, 0, none⟩) L L]
def incH (L : Nat) (A B : Nat) (x : List Int) (W : World) : Prop := A + 4 ≤ B ∧ Sl ics 1 W B (some ⟨A + 1, 0, none⟩) L L x

theorem incH_keep (L A B : Nat) (x : List Int) (X Y : World) (h : incH L A B x X) (hk : ∀ k, A ≤ k → k < B → Y.heap[k]? = X.heap[k]?) : incH L A B x Y := by
  refine ⟨h.1, h.2.len, h.2.cap, h.2.small, fun hn => ?_⟩
  obtain ⟨b, off, hA, hlt, hc⟩ := h.2.cells hn
  have hb : b = A + 1 := by simp at hA; exact hA.1.symm
  exact ⟨b, off, hA, hlt, fun k y hy j v hj => (World.cell?_of_block (w := X) (hk b (by omega) hlt)).trans (hc k y hy j v hj)⟩

theorem IncS.sl {A pl ps L sz l B : Nat} {y : List Int} {W : World} (h : IncS A pl ps L sz l y W) (hB : A + 4 ≤ B) (hL : L ≤ 7) : Sl ics 1 W B (some ⟨A + 1, 0, none⟩) L L y := by
  refine ⟨h.ylen, Nat.le_refl _, by omega, fun _ => ⟨A + 1, 0, rfl, by omega, fun k x hk j v hj => ?_⟩⟩
  have hv : j = 0 ∧ v = .int .i64 x := by
    rcases j with _ | j
    · simp [ics] at hj; exact ⟨rfl, hj.symm⟩
    · simp [ics] at hj
  obtain ⟨rfl, rfl⟩ := hv
  rw [show 0 + k * 1 + 0 = k from by omega, cell_in h.arr k]
  simp [hk]

set_option maxRecDepth 100000 in
set_option maxHeartbeats 4000000 in
theorem choose_in (F : Fence) (hd : F.depth = none) (h125 : F.fn 125) (hro : F.round = none) (l A pl ps L sz : Nat) (hL : L ≤ 7) (hsz : sz ≤ 7) (R : Nat → Prop) (r1 : R pl) (r2 : R ps) (h1A : pl < A) (h2A : ps < A) (xs : List (List Int))
    (J Jx : Nat → List (List Int) → World → Prop) (hJ : Abides A J)
    (hY : ∀ n B pre x W1, A ≤ B → B ≤ W1.heap.size → J B pre W1 → incH L A B x W1 → pre ++ [x] <+: xs → YieldAt F n Try.prog l (incE L A x) W1 fun e W' =>
      (e = .returned (.bool true) ∧ J B (pre ++ [x]) W' ∧ Kept R A B W1 W') ∨ (e = .returned (.bool false) ∧ Jx B (pre ++ [x]) W')) (j : Nat) :
    ∀ (n : Nat) (t frm : Nat) (pr y : List Int) (don : List (List Int)) (W : World), t + j = L → frm ≤ sz → IncS A pl ps L sz l y W → A + 4 ≤ W.heap.size → y.take t = pr → J (A + 4) don W → don ++ (M.incr sz j frm).map (pr ++ ·) <+: xs →
      CallsIn F n Try.prog 125 #[.int .i64 t, .int .i64 frm, .pointer (some ⟨pl, 0, none⟩), .pointer (some ⟨A, 0, none⟩), .pointer (some ⟨A + 2, 0, none⟩), .pointer (some ⟨ps, 0, none⟩), .pointer (some ⟨A + 3, 0, none⟩)] W fun e W' =>
        (e = .returned (.bool true) ∧ J (A + 4) (don ++ (M.incr sz j frm).map (pr ++ ·)) W' ∧ W.heap.size ≤ W'.heap.size ∧ ∃ y', IncS A pl ps L sz l y' W' ∧ y'.take t = pr) ∨ (e = .returned (.bool false) ∧ ∃ q, q <+: xs ∧ Jx (A + 4) q W') := by
  have hdd : ∀ k : Nat, (F.depth.isSome = true → 1 ≤ k) := fun k h => by rw [hd] at h; cases h
  induction j with
  | zero =>
    intro n t frm pr y don W ht hfr hS hz hy hJd hpx
    have htL : (t : Int) = (L : Int) := by omega
    have hyl := hS.ylen
    have hpr : y = pr := by rw [← hy, List.take_of_length_le (by omega)]
    subst hpr
    simp only [M.incr, List.map_cons, List.map_nil, List.append_nil] at hpx ⊢
    have hr := hY (n - 1) (A + 4) don y W (by omega) hz hJd ⟨Nat.le_refl _, hS.sl (Nat.le_refl _) hL⟩ hpx
    obtain ⟨fn, tmps, assign, body, hyy, hR⟩ := hr
    unfold incE at hyy
    have c1 := cell_in hS.len 0
    have c2 := cell_in hS.yld 0
    have c3 := cell_in hS.lst 0
    simp only [List.getElem?_toArray, List.getElem?_cons_zero] at c1 c2 c3
    refine callsIn_of_wp Try.func125 rfl h125 ?_ hro
    simp only [Try.ntmps125, List.size_toArray, List.length_cons, List.length_nil, Nat.reduceAdd, Nat.reduceSub, Array.replicate_succ, Array.replicate_zero, List.push_toArray, List.append_toArray, List.nil_append, List.cons_append]
    gi_wp2_with (((try refine ⟨hdd _, ?_⟩); refine hR.mono ?_; clear hR; rintro e W2 (⟨rfl, hJ2, hk2⟩ | ⟨rfl, hx2⟩)))
    · go_ret
      exact .inl ⟨rfl, hJ2, hk2.size, y, hS.kept hk2 r1 r2 (Nat.le_refl _), hy⟩
    · go_ret
      exact .inr ⟨rfl, _, hpx, hx2⟩
  | succ j ih =>
    intro n t frm pr y don W ht hfr hS hz hy hJd hpx
    have htL : ¬ (t : Int) = (L : Int) := by omega
    have c1 := cell_in hS.len 0
    simp only [List.getElem?_toArray, List.getElem?_cons_zero] at c1
    refine callsIn_of_wp Try.func125 rfl h125 ?_ hro
    simp only [Try.ntmps125, List.size_toArray, List.length_cons, List.length_nil, Nat.reduceAdd, Nat.reduceSub, Array.replicate_succ, Array.replicate_zero, List.push_toArray, List.append_toArray, List.nil_append, List.cons_append]
    gi_wp2
    gi_loopw [10] (fun v wr => ∃ k : Nat, ∃ y', ∃ don' : List (List Int), v = .int .i64 k ∧ frm ≤ k ∧ k ≤ sz ∧ IncS A pl ps L sz l y' wr ∧ W.heap.size ≤ wr.heap.size ∧ Hid (y'.take t = pr) ∧ J (A + 4) don' wr ∧ Hid (don' ++ ((List.range' k (sz - k)).flatMap fun (i : Nat) => (M.incr sz j (i + 1)).map ((i : Int) :: ·)).map (pr ++ ·) = don ++ (M.incr sz (j + 1) frm).map (pr ++ ·))) (fun v _ => sz - (intOf v).toNat)
    case atStart => exact ⟨frm, y, don, rfl, Nat.le_refl _, hfr, hS, Nat.le_refl _, hid hy, hJd, hid rfl⟩
    case round =>
      obtain ⟨k, y', don', rfl, hk1, hk2, hS', hz', HY', hJ', HD⟩ := hrel
      have c2 := cell_in hS'.siz 0
      simp only [List.getElem?_toArray, List.getElem?_cons_zero] at c2
      by_cases hlt : k < sz
      · have htl : t < L := by omega
        have hprl : pr.length = t := by rw [← HY'.out, List.length_take, hS'.ylen]; omega
        have c3 := cell_in hS'.lst 0
        have c4 := cell_in hS'.cho 0
        simp only [List.getElem?_toArray, List.getElem?_cons_zero] at c3 c4
        have c5 : wr.cell? ⟨A + 1, t, none⟩ = some (.int .i64 (y'.getD t 0)) := by
          rw [cell_in hS'.arr t, List.getElem?_toArray, List.getElem?_map, List.getD_eq_getElem?_getD, List.getElem?_eq_getElem (by rw [hS'.ylen]; exact htl)]; rfl
        have c6 := frozen_in hS'.arr t
        generalize y'.getD t 0 = u0 at c5
        have hS1 : IncS A pl ps L sz l (y'.set t k) (wr.setCell ⟨A + 1, t, none⟩ (.int .i64 k)) :=
          ⟨set_heap hS'.len (by simp; omega), set_heap hS'.siz (by simp; omega), set_heap hS'.yld (by simp), by rw [set_heap_same hS'.arr]; simp [List.map_set], set_heap hS'.lst (by simp), set_heap hS'.cho (by simp), by rw [List.length_set]; exact hS'.ylen⟩
        have hsz1 : (wr.setCell ⟨A + 1, t, none⟩ (.int .i64 k)).heap.size = wr.heap.size := by simp [World.setCell]
        have hsplit : List.range' k (sz - k) = k :: List.range' (k + 1) (sz - (k + 1)) := by rw [show sz - k = (sz - (k + 1)) + 1 from by omega]; rfl
        have hD := HD.out
        rw [hsplit, List.flatMap_cons, List.map_append, List.map_map, ← List.append_assoc] at hD
        have hfn : ((fun x => pr ++ x) ∘ fun x => (k : Int) :: x) = fun x => (pr ++ [(k : Int)]) ++ x := by funext x; simp
        rw [hfn] at hD
        have hpre1 : don' ++ (M.incr sz j (k + 1)).map ((pr ++ [(k : Int)]) ++ ·) <+: xs := List.IsPrefix.trans ⟨_, hD⟩ hpx
        have hih := ih (n - 1) (t + 1) (k + 1) (pr ++ [(k : Int)]) (y'.set t k) don' (wr.setCell ⟨A + 1, t, none⟩ (.int .i64 k)) (by omega) (by omega) hS1 (by simp [World.setCell]; omega)
          (by rw [List.take_add_one, List.take_set_of_le (Nat.le_refl _), HY'.out]; simp [hS'.ylen, htl]) (hJ _ _ _ _ (by omega) hJ' (Bar.setCell _ (by simp) (by simp))) hpre1
        rw [show ((t + 1 : Nat) : Int) = (t : Int) + 1 from by omega, show ((k + 1 : Nat) : Int) = (k : Int) + 1 from by omega] at hih
        have HIH := hid hih
        have HD2 := hid hD
        clear hih ih hD hsplit hfn hpre1
        gi_wp2_with ((try refine ⟨hdd _, ?_⟩); gi_at_call 125; with_reducible refine HIH.out.mono ?_; clear HIH; rintro e W2 (⟨rfl, hJ2, hz2, y2, hS2, hy2⟩ | ⟨rfl, q, hq, hx2⟩))
        · refine ⟨⟨k + 1, y2, _, by go_num, by omega, by omega, hS2, by rw [hsz1] at hz2; omega, hid ?_, hJ2, HD2⟩, by simp [intOf]; omega⟩
          have h3 : (y2.take (t + 1)).take t = (pr ++ [(k : Int)]).take t := by rw [hy2]
          rw [List.take_take, Nat.min_eq_left (by omega), List.take_left' hprl] at h3
          exact h3
        · go_ret
          exact .inr ⟨rfl, q, hq, hx2⟩
      · have hks : k = sz := by omega
        subst hks
        have hD := HD.out
        rw [Nat.sub_self] at hD
        simp only [List.range'_zero, List.flatMap_nil, List.map_nil, List.append_nil] at hD
        have HDD := hid hD
        clear hD
        gi_wp2
        go_ret
        exact .inl ⟨rfl, by rw [← HDD.out]; exact hJ', hz', y', hS', HY'.out⟩

theorem yield_any {F : Fence} (hd : F.depth = none) {m : Nat} (m' : Nat) {P : Program} {l : Nat} {args : Array Value} {W : World} {R : Ending → World → Prop} (h : YieldAt F m P l args W R) : YieldAt F m' P l args W R := by
  obtain ⟨fn, tmps, assign, body, hy, h1, h2⟩ := h
  exact ⟨fn, tmps, assign, body, hy, h1, fun c cs _ => h2 c cs (fun d h => by rw [hd] at h; cases h)⟩

theorem made0 (L : Nat) : madeCells (Value.int .i64 0).cells (L * 1) = ((List.replicate L (0 : Int)).map (Value.int .i64)).toArray := by
  unfold madeCells
  apply Array.ext
  · simp
  · intro i h1 h2
    simp [Value.cells, Nat.mod_one]

theorem make27 (L : Nat) (hL : L ≤ 7) (wx : World) : (Instr.makeSlice 27 (.int .i64 L) (.int .i64 L)).run Try.prog wx = .ok (.slice (some ⟨wx.heap.size, 0, none⟩) L L) (wx.alloc (.cells ((List.replicate L (0 : Int)).map (Value.int .i64)).toArray 3)) := by
  obtain ⟨i0, hi, hz0, hz1, hz2⟩ := info_parts info3
  have := run_makeSlice wx 27 3 i0 _ Try.underlying27 hi hz0 .i64 .i64 L L (by omega) (by omega) (by rw [hz1]; omega) (by rw [hz2]; omega) (by omega)
  rw [hz1, Int.toNat_natCast, made0 L] at this
  exact this

theorem replicate_map {n : Nat} : Array.replicate n (Value.int .i64 0) = ((List.replicate n (0 : Int)).map (Value.int .i64)).toArray := by simp

set_option maxRecDepth 100000 in
set_option maxHeartbeats 4000000 in
theorem incr_seq (F : Fence) (hd : F.depth = none) (h124 : F.fn 124) (h125 : F.fn 125) (hro : F.round = none) (n pl ps L sz : Nat) (hL : L ≤ 7) (hsz : sz ≤ 7) (w0 : World)
    (q1 : w0.heap[pl]? = some (.cells #[.int .i64 L] 3 (0, 0))) (q2 : w0.heap[ps]? = some (.cells #[.int .i64 sz] 3 (0, 0))) :
    SeqX F n Try.prog 124 #[.pointer (some ⟨pl, 0, none⟩), .pointer (some ⟨ps, 0, none⟩)] (incE L) (incH L) (fun k => k = pl ∨ k = ps) (M.incr sz L 0) w0 := by
  intro l J Jx W hW hJ hJx hY h0
  have hdd : ∀ k : Nat, (F.depth.isSome = true → 1 ≤ k) := fun k h => by rw [hd] at h; cases h
  have hpl := heap_lt q1
  have hps := heap_lt q2
  have hws := hW.size
  have hplW : pl < W.heap.size := by omega
  have hpsW : ps < W.heap.size := by omega
  have c1 : W.cell? ⟨pl, 0, none⟩ = some (.int .i64 L) := cell_in ((hW.block pl hpl).trans q1) 0
  have hch : ∀ W4, Ev W W4 → W4.heap.size = W.heap.size + 4 → IncS W.heap.size pl ps L sz l (List.replicate L 0) W4 →
      CallsIn F (n - 1) Try.prog 125 #[.int .i64 0, .int .i64 0, .pointer (some ⟨pl, 0, none⟩), .pointer (some ⟨W.heap.size, 0, none⟩), .pointer (some ⟨W.heap.size + 1 + 1, 0, none⟩), .pointer (some ⟨ps, 0, none⟩), .pointer (some ⟨W.heap.size + 1 + 1 + 1, 0, none⟩)] W4 fun e W' =>
        (∃ b, e = .returned (.bool b)) ∧ ∃ B, W.heap.size ≤ B ∧ (J B (M.incr sz L 0) W' ∨ ∃ pre, pre <+: M.incr sz L 0 ∧ Jx B pre W') := by
    intro W4 hE hs hS
    have := choose_in F hd h125 hro l W.heap.size pl ps L sz hL hsz (fun k => k = pl ∨ k = ps) (.inl rfl) (.inr rfl) (by omega) (by omega) (M.incr sz L 0) J Jx hJ
      (fun m B pre x W1 h1 h2 h3 h4 h5 => yield_any hd m (hY B pre x W1 h1 h2 h3 h4 h5)) L (n - 1) 0 0 [] (List.replicate L 0) [] W4 (by omega) (by omega) hS (by omega) (by simp) (by rw [← hs]; exact h0 W4 hE) (by simp)
    refine CallsIn.mono this ?_
    rintro e W' (⟨rfl, hj, _, _⟩ | ⟨rfl, q, hq, hx⟩)
    · exact ⟨⟨_, rfl⟩, W.heap.size + 4, by omega, .inl (by simpa using hj)⟩
    · exact ⟨⟨_, rfl⟩, W.heap.size + 4, by omega, .inr ⟨q, hq, hx⟩⟩
  have HCH := hid hch
  have hmk := fun wx => make27 L hL wx
  have hal := alloc4 W (.cells #[.func (.yield l) #[] #[]] 119) (.cells (Array.replicate L (.int .i64 0)) 3) (.cells #[.slice (some ⟨W.heap.size + 1, 0, none⟩) L L] 27) (.cells #[.nilFunc] 164)
  have c9 := cell_in hal.2.2.2.1 0
  have f9 := frozen_in hal.2.2.2.1 0
  simp only [List.getElem?_toArray, List.getElem?_cons_zero] at c9
  have HAL := hid hal
  clear hal
  have Q1 := hid ((hW.block pl hpl).trans q1)
  have Q2 := hid ((hW.block ps hps).trans q2)
  clear hch
  refine callsIn_of_wp Try.func124 rfl h124 ?_ hro
  simp only [Try.ntmps124, List.size_toArray, List.length_cons, List.length_nil, Nat.reduceAdd, Nat.reduceSub, Array.replicate_succ, Array.replicate_zero, List.push_toArray, List.append_toArray, List.nil_append, List.cons_append]
  have hcl := alloc4 W (.cells #[.func (.yield l) #[] #[]] 119) (.cells (Array.replicate L (.int .i64 0)) 3) (.cells #[.slice (some ⟨W.heap.size + 1, 0, none⟩) L L] 27) (.cells #[.func (.func 125) #[] #[.pointer (some ⟨pl, 0, none⟩), .pointer (some ⟨W.heap.size, 0, none⟩), .pointer (some ⟨W.heap.size + 1 + 1, 0, none⟩), .pointer (some ⟨ps, 0, none⟩), .pointer (some ⟨W.heap.size + 1 + 1 + 1, 0, none⟩)]] 164)
  have hEv : Ev W ((((W.alloc (.cells #[.func (.yield l) #[] #[]] 119)).alloc (.cells (Array.replicate L (.int .i64 0)) 3)).alloc (.cells #[.slice (some ⟨W.heap.size + 1, 0, none⟩) L L] 27)).alloc (.cells #[.func (.func 125) #[] #[.pointer (some ⟨pl, 0, none⟩), .pointer (some ⟨W.heap.size, 0, none⟩), .pointer (some ⟨W.heap.size + 1 + 1, 0, none⟩), .pointer (some ⟨ps, 0, none⟩), .pointer (some ⟨W.heap.size + 1 + 1 + 1, 0, none⟩)]] 164)) := Ev.alloc (Ev.alloc (Ev.alloc (Ev.alloc (Ev.refl _) _) _) _) _
  have hgo := HCH.out _ hEv hcl.2.2.2.2 ⟨hEv.heap Q1.out, hEv.heap Q2.out, hcl.1, by rw [hcl.2.1]; simp, hcl.2.2.1, hcl.2.2.2.1, by simp⟩
  have HGO := hid hgo
  clear hcl hEv hgo HAL
  gi_wp2_with ((try refine ⟨hdd _, ?_⟩); gi_at_call 125; with_reducible refine HGO.out.mono ?_; clear HGO; rintro e W1 ⟨⟨b, rfl⟩, hB⟩)
  go_end0
  exact ⟨⟨_, rfl⟩, hB⟩

end Go.Proofs.Ytcecmphdmpeibaa

namespace Go.Proofs.Ytcecmphdmpeibaa
open Go.RowKit Go.Shelf
attribute [local go_sem] Oper.semAt_some

set_option maxRecDepth 100000 in
set_option maxHeartbeats 1000000 in
theorem increasing_c (sz L : Int) (w : World) :
    Calls Try.prog 112 #[.int .i64 sz, .int .i64 L] w fun e w' => e = .returned (.func (.func 124) #[] #[.pointer (some ⟨w.heap.size + 1, 0, none⟩), .pointer (some ⟨w.heap.size, 0, none⟩)]) ∧ Ev w w' ∧ w'.heap[w.heap.size + 1]? = some (.cells #[.int .i64 L] 3 (0, 0)) ∧ w'.heap[w.heap.size]? = some (.cells #[.int .i64 sz] 3 (0, 0)) := by
  have hal := alloc2 w (.cells #[.int .i64 sz] 3) (.cells #[.int .i64 L] 3)
  have HAL := hid hal
  clear hal
  go_enter Try.func112, Try.ntmps112
  go_wp2
  go_ret
  exact ⟨rfl, Ev.alloc (Ev.alloc (Ev.refl _) _) _, HAL.out.2.1, HAL.out.1⟩

/-- The marks that loops over iterators have left in an activation. -/
def marks (Ds : List Nat) : List Deferred := Ds.map fun D => { target := .collected D, args := #[] }

/-- A world from which only shut marks have turned. -/
theorem leaves_marks {F : Fence} {n : Nat} {P : Program} {fn : Func} {tmps : Array Value} {R : Ending → World → Prop} {A : Nat} : ∀ (Ds : List Nat) (w : World), Ds.Nodup → (∀ D ∈ Ds, A ≤ D ∧ w.heap[D]? = some (.deferred (some []))) →
    (∀ w', Below A w w' → (∀ k, k ∉ Ds → w'.heap[k]? = w.heap[k]?) → LeavesIn F n P fn tmps R [] .returning w') → LeavesInM F n P fn tmps R (marks Ds) .returning w
  | [], w, _, _, h => h w (Below.refl _ _) (fun _ _ => rfl)
  | D :: Ds, w, hn, hD, h => by
    obtain ⟨hA, hd⟩ := hD D (by simp)
    obtain ⟨hn1, hn2⟩ := List.nodup_cons.1 hn
    have hl := (Array.getElem?_eq_some_iff.1 hd).1
    have ho : ∀ k, k ≠ D → (w.putObj D (.deferred none)).heap[k]? = w.heap[k]? := fun k hk => World.putObj_heap_other hk
    have hb : Below A w (w.putObj D (.deferred none)) := ⟨rfl, rfl, rfl, by simp, fun k hk => ho k (by omega)⟩
    refine ⟨by simp, .inl ⟨D, _, rfl, run_takeDeferred hd, ?_⟩⟩
    refine leaves_marks Ds _ hn2 (fun E hE => ⟨(hD E (by simp [hE])).1, (ho E (fun e => hn1 (e ▸ hE))).trans (hD E (by simp [hE])).2⟩) (fun w' hb' hk' => ?_)
    refine h w' (hb.trans hb') (fun k hk => ?_)
    simp only [List.mem_cons, not_or] at hk
    exact (hk' k hk.2).trans (ho k hk.1)

def M.first (p : List Int → Bool) (sz : Nat) : Nat → Nat → List Int
  | _, 0 => []
  | L, j + 1 => match (M.incr sz L 0).find? p with
    | some x => x
    | none => M.first p sz (L + 1) j
/-- The first list of all rising ones, the shortest first, of which p holds. -/
def M.shortest (p : List Int → Bool) (sz : Nat) : List Int := M.first p sz 0 (sz + 1)

theorem ownsRow_bar {A B : Nat} {X Y : World} {e : TypeId} {size : Nat} {v : Value} {n : Nat} {xs : List Value} (h : X.ownsRow B e size v n xs) (hb : Bar A B X Y) : Y.ownsRow B e size v n xs := by
  refine ⟨h.1, ?_⟩
  rcases h.2 with hn | ⟨g, cap, cur, rfl, hbg, hgg, rest⟩
  · exact .inl hn
  · exact .inr ⟨g, cap, cur, rfl, hbg, (hb.block g (heap_lt hgg) (by omega)).trans hgg, rest⟩

theorem ics_map : ∀ (x : List Int), x.flatMap ics = x.map (Value.int .i64)
  | [] => rfl
  | y :: r => by rw [List.flatMap_cons, ics_map r]; rfl
theorem ics_one (x : List Int) : ∀ u ∈ x.flatMap ics, u.oneCell' = true := by
  intro u hu
  rw [ics_map] at hu
  obtain ⟨y, _, rfl⟩ := List.mem_map.1 hu
  rfl

theorem ownsRow_cells {B : Nat} {X Y : World} {e : TypeId} {size : Nat} {v : Value} {n : Nat} {xs : List Value} (h : X.ownsRow B e size v n xs) (hb : ∀ (k : Nat) (o : Obj), X.heap[k]? = some o → o.isCells = true → Y.heap[k]? = some o) : Y.ownsRow B e size v n xs := by
  refine ⟨h.1, ?_⟩
  rcases h.2 with hn | ⟨g, cap, cur, rfl, hbg, hgg, rest⟩
  · exact .inl hn
  · exact .inr ⟨g, cap, cur, rfl, hbg, hb _ _ hgg rfl, rest⟩

theorem slice_news {W : World} {b m d : Nat} {x : List Int} (h : Sl ics 1 W W.heap.size (some ⟨b, 0, none⟩) m d x) : ∀ (j : Nat) (u : Value), (x.flatMap ics)[j]? = some u → W.cell? ((⟨b, 0, none⟩ : Addr).add j) = some u := by
  intro j u hj
  have hx := ics_map x
  rw [hx, List.getElem?_map] at hj
  cases hy : x[j]? with
  | none => rw [hy] at hj; simp at hj
  | some y =>
    rw [hy] at hj
    have hlt : 0 < m := by have := h.len; have := (List.getElem?_eq_some_iff.1 hy).1; omega
    obtain ⟨b', off, hA, _, hc⟩ := h.cells hlt
    simp only [Option.some.injEq, Addr.mk.injEq, and_true] at hA
    obtain ⟨rfl, rfl⟩ := hA
    have hu : u = .int .i64 y := by simpa using hj.symm
    have := hc j y hy 0 (.int .i64 y) rfl
    rw [hu, ← this]
    unfold Addr.add
    split
    · rename_i h0; subst h0; rfl
    · simp

set_option maxRecDepth 100000 in
set_option maxHeartbeats 4000000 in
theorem shortA_in (v0 v1 v2 : Value) (sz : Nat) (hsz : sz ≤ 7) (p : List Int → Bool) (w : World) 
    (hcb : ∀ W B m d rows L, Ev w W → Sl ics 1 W W.heap.size B m d rows → rows ∈ M.incr sz L 0 → Calls Try.prog 83 #[.agg #[v0, v1, v2], .slice B m d] W fun e w' => e = .returned (.bool (p rows)) ∧ Ev W w') :
    CallsIn Fence.wide 5 Try.prog 84 #[.agg #[v0, v1, v2, .int .i64 sz, .func (.func 83) #[] #[]]] w fun e w' => (∃ B d, e = .returned (.slice B (M.shortest p sz).length d) ∧ Sl ics 1 w' w'.heap.size B (M.shortest p sz).length d (M.shortest p sz)) ∧ Ev w w' := by
  have hdd : ∀ k : Nat, (Fence.wide.depth.isSome = true → 1 ≤ k) := fun k h => by cases h
  have HCB := hid hcb
  clear hcb
  refine callsIn_of_wp_marks Try.func84 rfl trivial ?_ rfl
  simp only [Try.ntmps84, List.size_toArray, List.length_cons, List.length_nil, Nat.reduceAdd, Nat.reduceSub, Array.replicate_succ, Array.replicate_zero, List.push_toArray, List.append_toArray, List.nil_append, List.cons_append]
  gi_wp2
  refine wpIn_wide.2 ?_
  apply wp_scope_straight
  refine (wpIn_wide (n := 5)).1 ?_
  have hal := alloc2 w (.cells #[v0, v1, v2, .int .i64 sz, .func (.func 83) #[] #[]] 121) (.cells #[.slice none 0 0] 27)
  have hE0 : Ev w ((w.alloc (.cells #[v0, v1, v2, .int .i64 sz, .func (.func 83) #[] #[]] 121)).alloc (.cells #[.slice none 0 0] 27)) := Ev.alloc (Ev.alloc (Ev.refl _) _) _
  have HAL := hid hal
  clear hal
  gi_wp2
  refine wpIn_wide.2 ?_
  apply wp_label
  gi_wp2
  generalize hW0 : World.alloc (World.alloc w _) _ = W0 at hE0 HAL
  have Q0 := hid HAL.out.1
  have Q1 := hid HAL.out.2.1
  clear HAL hW0
  refine wpIn_loop (fun a W => ∃ (k : Nat) (Ds : List Nat) (u4 u5 u10 u11 u12 u13 u14 u15 u16 u17 u18 u19 u20 u21 u22 u23 u24 u25 u26 u27 : Value), a = { tmps := #[.agg #[v0, v1, v2, .int .i64 sz, .func (.func 83) #[] #[]], .pointer (some ⟨w.heap.size, 0, none⟩), .slice none 0 0, .pointer (some ⟨w.heap.size + 1, 0, none⟩), u4, u5, .pointer (some ⟨w.heap.size, 3, none⟩), .int .i64 sz, .int .i64 ((sz : Int) + 1), .int .i64 k, u10, u11, u12, u13, u14, u15, u16, u17, u18, u19, u20, u21, u22, u23, u24, u25, u26, u27], defers := marks Ds } ∧ k ≤ sz + 1 ∧ Ev w W ∧
      Hid (W.heap[w.heap.size]? = some (.cells #[v0, v1, v2, .int .i64 sz, .func (.func 83) #[] #[]] 121 (0, 0))) ∧ Hid (W.heap[w.heap.size + 1]? = some (.cells #[.slice none 0 0] 27 (0, 0))) ∧ Ds.Nodup ∧ Hid (∀ D ∈ Ds, w.heap.size + 2 ≤ D ∧ W.heap[D]? = some (.deferred (some []))) ∧ Hid (M.first p sz k (sz + 1 - k) = M.shortest p sz))
    (fun a _ => sz + 1 - (intOf (a.tmps.getD 9 undef)).toNat) ?_ ?_
  · exact ⟨0, [], undef, undef, undef, undef, undef, undef, undef, undef, undef, undef, undef, undef, undef, undef, undef, undef, undef, undef, undef, undef, rfl, by omega, hE0, Q0, Q1, List.nodup_nil, hid (by simp), hid rfl⟩
  · rintro a W ⟨k, Ds, u4, u5, u10, u11, u12, u13, u14, u15, u16, u17, u18, u19, u20, u21, u22, u23, u24, u25, u26, u27, rfl, hk, hE, HS, HB, hnd, HD, HF⟩
    have hws := hE.size
    have hSl := heap_lt HS.out
    have hBl := heap_lt HB.out
    obtain ⟨s0, s1, s2, s3, s4⟩ := cells5 HS.out
    have b0 := cell_in HB.out 0
    simp only [List.getElem?_toArray, List.getElem?_cons_zero] at b0
    by_cases hlt : k < sz + 1
    · have hcl : CallsIn Fence.wide 4 Try.prog 112 #[.int .i64 sz, .int .i64 k] W _ := callsIn_wide.2 (increasing_c sz k W)
      have HCL := hid hcl
      clear hcl
      gi_wp2_with ((try refine ⟨trivial, ?_⟩); (try refine ⟨hdd _, ?_⟩); gi_at_call 112; with_reducible refine HCL.out.mono ?_; clear HCL; rintro e W1 ⟨rfl, hE1, hq1, hq2⟩)
      have hk7 : k ≤ 7 := by omega
      have hz1 := heap_lt hq1
      have hz0 := heap_lt hq2
      have hfb : w.heap.size + 1 < W1.heap.size := by have := hE1.size; omega
      have hBW1 := hE1.heap HB.out
      have hSW1 := hE1.heap HS.out
      have HBW := hid hBW1
      have HSW := hid hSW1
      have hnd1 : (W1.heap.size :: Ds).Nodup := List.nodup_cons.2 ⟨fun hm => by have := heap_lt (HD.out _ hm).2; have := hE1.size; omega, hnd⟩
      have hN : ∀ (B : Nat) (x y : World), W1.heap.size ≤ B → Bar W1.heap.size B x y → Ev W1 x → Ev W1 y := fun B x y hB hb h => Below.trans h (hb.below (Nat.le_refl _) h.size)
      refine rangeX (F := Fence.wide) (n := 5) rfl (by omega) (gf := 124) (lb := #[.pointer (some ⟨W.heap.size + 1, 0, none⟩), .pointer (some ⟨W.heap.size, 0, none⟩)]) rfl trivial (fun args w => Try.call124 args w)
        (incr_seq Fence.wide rfl trivial trivial rfl 4 (W.heap.size + 1) W.heap.size k sz hk7 hsz W1 hq1 hq2) (Below.refl _ _) (fun j hj => by rcases hj with rfl | rfl <;> assumption) (fun _ => rfl) (incH_keep k)
        (fun _ pre X => (∀ x ∈ pre, p x = false) ∧ Ev W1 X)
        (fun B c pre X => c = .exit 0 ∧ ∃ x pre0 v, pre = pre0 ++ [x] ∧ (∀ y ∈ pre0, p y = false) ∧ p x = true ∧ Bar (w.heap.size + 1) (w.heap.size + 2) W1 X ∧ X.heap[w.heap.size + 1]? = some (.cells #[v] 27 (0, 0)) ∧ X.ownsRow B 3 1 v x.length (x.flatMap ics) ∧ x.length ≤ 7)
        (fun _ x a' _ => a' = { tmps := #[Value.agg #[v0, v1, v2, .int .i64 sz, .func (.func 83) #[] #[]], .pointer (some ⟨w.heap.size, 0, none⟩), .slice none 0 0, .pointer (some ⟨w.heap.size + 1, 0, none⟩), .int .i64 k, (.slice (some ⟨W1.heap.size + 2 + 1, 0, none⟩) k k), .pointer (some ⟨w.heap.size, 3, none⟩), .int .i64 sz, .int .i64 ((sz : Int) + 1), .int .i64 k, .bool true, .int .i64 k, .pointer (some ⟨w.heap.size, 3, none⟩), .int .i64 sz, .int .i64 k, .func (.func 124) #[] #[.pointer (some ⟨W.heap.size + 1, 0, none⟩), .pointer (some ⟨W.heap.size, 0, none⟩)], (.slice (some ⟨W1.heap.size + 2 + 1, 0, none⟩) k k), u17, u18, u19, u20, u21, u22, u23, u24, u25, u26, u27], defers := [] })
        (fun B s x y hB h hb => ⟨h.1, hN B x y hB hb h.2⟩)
        (fun c B s x y hB h hb => by
          obtain ⟨rfl, z, pre0, v, h1, h2, h3, h4, h5, h6, h7⟩ := h
          refine ⟨rfl, z, pre0, v, h1, h2, h3, ⟨hb.os.trans h4.os, hb.tape.trans h4.tape, hb.output.trans h4.output, Nat.le_trans h4.size hb.size, fun j hj hn => ?_⟩, ?_, ownsRow_bar h6 hb, h7⟩
          · exact (hb.block j (by have := h4.size; omega) (by omega)).trans (h4.block j hj hn)
          · exact (hb.block _ (heap_lt h5) (by omega)).trans h5)
        (fun a' B s x y hB h hb => h)
        (fun X hX => ⟨by simp, hX⟩) ?assign ?body ?done ?stop
      case assign =>
        intro l B pre x X K hB hBX hI _ hK
        unfold incE
        gi_wp2
        exact hK _ _ (Ev.refl _) rfl
      case body =>
        rintro l B pre x a' X hB hBX ⟨hp, hEX⟩ rfl hh hpre
        obtain ⟨i0, hi, hz0', hz1', hz2'⟩ := info_parts info3
        have hxm : x ∈ M.incr sz k 0 := hpre.subset (by simp)
        have hEw := (hE.trans hE1).trans hEX
        have hsx := hh.2.keep (Below.refl _ X) hBX
        have hcx : CallsIn (Fence.wide.inRound l) 2 Try.prog 83 #[.agg #[v0, v1, v2], .slice (some ⟨W1.heap.size + 2 + 1, 0, none⟩) k k] X _ := CallsIn.inRound l (callsIn_wide.2 (HCB.out X _ _ _ x k hEw hsx hxm))
        obtain ⟨s0, s1, s2, s3, s4⟩ := cells5 (hEX.heap HSW.out)
        have hxl : x.length = k := hsx.len
        have HCX := hid hcx
        have HSX := hid hsx
        clear hcx hsx
        cases hpx : p x with
        | true =>
          rw [hpx] at HCX
          have HPX := hid hpx
          clear hpx
          gi_wp2_with (first | ((try refine ⟨trivial, ?_⟩); (try refine ⟨hdd _, ?_⟩); gi_at_call 83; with_reducible refine HCX.out.mono ?_; rintro e X1 ⟨rfl, hE3⟩; have hB3 := (hE3.heap (hEX.heap HBW.out)); have b3 := cell_in hB3 0; simp only [List.getElem?_toArray, List.getElem?_cons_zero] at b3) | (gi_at_builtin; refine wpListIn_append_own _ rfl (.tmp 23) (.tmp 24) 27 rfl B 3 i0 _ 1 8 Try.underlying27 hi hz0' hz1' hz2' rfl (by decide) (.slice none 0 0) 0 [] rfl (World.ownsRow_nil _ _ _ _) ⟨W1.heap.size + 2 + 1, 0, none⟩ k k (x.flatMap ics) rfl (by rw [flat_len ics 1 x (fun _ _ => rfl), hxl]) (slice_news (HSX.out.ev hE3)) (ics_one x) (by unfold maxLen; omega) (by omega) (by have := hE3.size; omega) ?_; intro v' X2 hown' hgrow _; obtain ⟨D', d', rfl, hsl'⟩ := Sl.of_own (enc := ics) (sz := 1) (xs := x) (by decide) (fun _ _ => rfl) (by omega) hown'; have hB4 : X2.heap[w.heap.size + 1]? = some (.cells #[.slice none 0 0] 27 (0, 0)) := (hgrow.block _ (heap_lt hB3) (by simp [Value.ownBlock])).trans hB3; have b4 := cell_in hB4 0; have b5 := frozen_in hB4 0; simp only [List.getElem?_toArray, List.getElem?_cons_zero] at b4))
          have hE4 : Ev X X2 := Ev.grown hE3 hgrow (fun k e => by simp [Value.ownBlock] at e)
          rw [List.nil_append] at hown'
          have hown2 : X2.ownsRow B 3 1 (.slice D' k d') x.length (x.flatMap ics) := by rw [hxl]; simpa using hown'
          refine ⟨⟨?_, fun j hj hor => ?_⟩, rfl, x, pre, rfl, hp, HPX.out, ?_, .slice D' k d', by rw [set_heap_same hB4]; rfl, ?_, by omega⟩
          · have := hE4.size
            simpa [World.setCell] using this
          · rcases hor with hf | hor
            · exact hf.elim
            · exact (Below.heap_setCell _ _ _ j (by simp; omega)).trans (hE4.block j hj)
          · exact (Bar.ev (hEX.trans hE4)).trans (Bar.setCell _ (by simp) (by simp))
          · have := ownsRow_setCell_below hown2 (a := ⟨w.heap.size + 1, 0, none⟩) (show w.heap.size + 1 < B by omega) (.slice D' k d')
            simpa using this
        | false =>
          rw [hpx] at HCX
          have HPX := hid hpx
          clear hpx
          gi_wp2_with ((try refine ⟨trivial, ?_⟩); (try refine ⟨hdd _, ?_⟩); gi_at_call 83; with_reducible refine HCX.out.mono ?_; rintro e X1 ⟨rfl, hE3⟩)
          refine ⟨⟨hE3.size, fun j hj _ => hE3.block j hj⟩, fun y hy => ?_, hEX.trans hE3⟩
          rcases List.mem_append.1 hy with hy | hy
          · exact hp y hy
          · rw [show y = x by simpa using hy]; exact HPX.out
      case done =>
        rintro B X hB ⟨hp, hEX⟩ hD
        gi_wp2
        refine ⟨⟨k + 1, W1.heap.size :: Ds, _, _, _, _, _, _, _, _, _, _, _, _, _, _, _, _, _, _, _, _, by rw [show ((k + 1 : Nat) : Int) = (k : Int) + 1 from by omega]; rfl, by omega, (hE.trans hE1).trans hEX, hid (hEX.heap HSW.out), hid (hEX.heap HBW.out), hnd1, hid ?_, hid ?_⟩, by simp [intOf]; omega⟩
        · intro D hDm
          rcases List.mem_cons.1 hDm with rfl | hDm
          · exact ⟨by omega, hD⟩
          · exact ⟨(HD.out D hDm).1, hEX.heap (hE1.heap (HD.out D hDm).2)⟩
        · rw [← HF.out, show sz + 1 - k = (sz + 1 - (k + 1)) + 1 from by omega]
          have hfn : (M.incr sz k 0).find? p = none := List.find?_eq_none.2 (fun x hx => by rw [hp x hx]; decide)
          conv => rhs; unfold M.first
          rw [hfn]
      case stop =>
        rintro B c pre X hB hpre ⟨rfl, x, pre0, v, rfl, hp, hpx, hbar, hbx, hown, hx7⟩ hD
        obtain ⟨D', d', rfl, hsl'⟩ := Sl.of_own (enc := ics) (sz := 1) (xs := x) (by decide) (fun _ _ => rfl) (by omega) hown
        have b5 := cell_in hbx 0
        simp only [List.getElem?_toArray, List.getElem?_cons_zero] at b5
        gi_wp2
        have hfn : (M.incr sz k 0).find? p = some x := by
          obtain ⟨r, hr⟩ := hpre
          rw [← hr, List.append_assoc, List.find?_append, List.find?_eq_none.2 (fun y hy => by rw [hp y hy]; decide)]
          simp [hpx]
        have hxs : M.shortest p sz = x := by
          rw [← HF.out, show sz + 1 - k = (sz + 1 - (k + 1)) + 1 from by omega]
          unfold M.first
          rw [hfn]
        show LeavesInM Fence.wide 5 Try.prog Try.f84 _ _ (marks (W1.heap.size :: Ds)) .returning X
        have hEb : Below w.heap.size w X := Below.trans (hE.trans hE1) (hbar.below (by omega) (by have := (hE.trans hE1).size; omega))
        refine leaves_marks (A := w.heap.size) (W1.heap.size :: Ds) X hnd1 (fun D hDm => ?_) (fun w' hb' hk' => ?_)
        · rcases List.mem_cons.1 hDm with rfl | hDm
          · exact ⟨by omega, hD⟩
          · obtain ⟨h1, h2⟩ := HD.out D hDm
            exact ⟨by omega, (hbar.block D (heap_lt (hE1.heap h2)) (by omega)).trans (hE1.heap h2)⟩
        · have hnm : ∀ (j : Nat) (o : Obj), X.heap[j]? = some o → o.isCells = true → w'.heap[j]? = some o := fun j o ho hc => by
            refine (hk' j (fun hm => ?_)).trans ho
            have : X.heap[j]? = some (.deferred (some [])) := by
              rcases List.mem_cons.1 hm with rfl | hm
              · exact hD
              · obtain ⟨h1, h2⟩ := HD.out j hm
                exact (hbar.block j (heap_lt (hE1.heap h2)) (by omega)).trans (hE1.heap h2)
            rw [this] at ho
            cases ho
            cases hc
          obtain ⟨D2, d2, he2, hsl2⟩ := Sl.of_own (enc := ics) (sz := 1) (xs := x) (by decide) (fun _ _ => rfl) (by omega) (ownsRow_cells hown hnm)
          refine ⟨_, results_tmp rfl _ _ _, ⟨D2, d2, ?_, ?_⟩, Below.trans hEb hb'⟩
          · rw [hxs, ← he2]; rfl
          · rw [hxs]; exact hsl2
    · have hks : k = sz + 1 := by omega
      subst hks
      have hF := HF.out
      rw [Nat.sub_self] at hF
      have HFF := hid hF
      clear hF
      gi_wp2
      show LeavesInM Fence.wide 5 Try.prog Try.f84 _ _ (marks Ds) .returning W
      refine leaves_marks (A := w.heap.size) Ds W hnd (fun D hDm => ⟨by have := (HD.out D hDm).1; omega, (HD.out D hDm).2⟩) (fun w' hb' _ => ?_)
      refine ⟨_, results_tmp rfl _ _ _, ⟨none, 0, ?_, ?_⟩, Below.trans hE hb'⟩
      · rw [← HFF.out]; rfl
      · rw [← HFF.out]; exact ⟨rfl, Nat.le_refl _, by simp [M.first], fun h => by simp [M.first] at h⟩

set_option maxRecDepth 100000 in
set_option maxHeartbeats 4000000 in
theorem shortW_in (v0 : Value) (sz : Nat) (hsz : sz ≤ 7) (p : List Int → Bool) (w : World) 
    (hcb : ∀ W B m d rows L, Ev w W → Sl ics 1 W W.heap.size B m d rows → rows ∈ M.incr sz L 0 → Calls Try.prog 93 #[v0, .slice B m d] W fun e w' => e = .returned (.bool (p rows)) ∧ Ev W w') :
    CallsIn Fence.wide 5 Try.prog 94 #[.agg #[v0, .int .i64 sz, .func (.func 93) #[] #[]]] w fun e w' => (∃ B d, e = .returned (.slice B (M.shortest p sz).length d) ∧ Sl ics 1 w' w'.heap.size B (M.shortest p sz).length d (M.shortest p sz)) ∧ Ev w w' := by
  have hdd : ∀ k : Nat, (Fence.wide.depth.isSome = true → 1 ≤ k) := fun k h => by cases h
  have HCB := hid hcb
  clear hcb
  refine callsIn_of_wp_marks Try.func94 rfl trivial ?_ rfl
  simp only [Try.ntmps94, List.size_toArray, List.length_cons, List.length_nil, Nat.reduceAdd, Nat.reduceSub, Array.replicate_succ, Array.replicate_zero, List.push_toArray, List.append_toArray, List.nil_append, List.cons_append]
  gi_wp2
  refine wpIn_wide.2 ?_
  apply wp_scope_straight
  refine (wpIn_wide (n := 5)).1 ?_
  have hal := alloc2 w (.cells #[v0, .int .i64 sz, .func (.func 93) #[] #[]] 135) (.cells #[.slice none 0 0] 27)
  have hE0 : Ev w ((w.alloc (.cells #[v0, .int .i64 sz, .func (.func 93) #[] #[]] 135)).alloc (.cells #[.slice none 0 0] 27)) := Ev.alloc (Ev.alloc (Ev.refl _) _) _
  have HAL := hid hal
  clear hal
  gi_wp2
  refine wpIn_wide.2 ?_
  apply wp_label
  gi_wp2
  generalize hW0 : World.alloc (World.alloc w _) _ = W0 at hE0 HAL
  have Q0 := hid HAL.out.1
  have Q1 := hid HAL.out.2.1
  clear HAL hW0
  refine wpIn_loop (fun a W => ∃ (k : Nat) (Ds : List Nat) (u4 u5 u10 u11 u12 u13 u14 u15 u16 u17 u18 u19 u20 u21 u22 u23 u24 u25 u26 u27 : Value), a = { tmps := #[.agg #[v0, .int .i64 sz, .func (.func 93) #[] #[]], .pointer (some ⟨w.heap.size, 0, none⟩), .slice none 0 0, .pointer (some ⟨w.heap.size + 1, 0, none⟩), u4, u5, .pointer (some ⟨w.heap.size, 1, none⟩), .int .i64 sz, .int .i64 ((sz : Int) + 1), .int .i64 k, u10, u11, u12, u13, u14, u15, u16, u17, u18, u19, u20, u21, u22, u23, u24, u25, u26, u27], defers := marks Ds } ∧ k ≤ sz + 1 ∧ Ev w W ∧
      Hid (W.heap[w.heap.size]? = some (.cells #[v0, .int .i64 sz, .func (.func 93) #[] #[]] 135 (0, 0))) ∧ Hid (W.heap[w.heap.size + 1]? = some (.cells #[.slice none 0 0] 27 (0, 0))) ∧ Ds.Nodup ∧ Hid (∀ D ∈ Ds, w.heap.size + 2 ≤ D ∧ W.heap[D]? = some (.deferred (some []))) ∧ Hid (M.first p sz k (sz + 1 - k) = M.shortest p sz))
    (fun a _ => sz + 1 - (intOf (a.tmps.getD 9 undef)).toNat) ?_ ?_
  · exact ⟨0, [], undef, undef, undef, undef, undef, undef, undef, undef, undef, undef, undef, undef, undef, undef, undef, undef, undef, undef, undef, undef, rfl, by omega, hE0, Q0, Q1, List.nodup_nil, hid (by simp), hid rfl⟩
  · rintro a W ⟨k, Ds, u4, u5, u10, u11, u12, u13, u14, u15, u16, u17, u18, u19, u20, u21, u22, u23, u24, u25, u26, u27, rfl, hk, hE, HS, HB, hnd, HD, HF⟩
    have hws := hE.size
    have hSl := heap_lt HS.out
    have hBl := heap_lt HB.out
    obtain ⟨s0, s1, s2⟩ := cells3 HS.out
    have b0 := cell_in HB.out 0
    simp only [List.getElem?_toArray, List.getElem?_cons_zero] at b0
    by_cases hlt : k < sz + 1
    · have hcl : CallsIn Fence.wide 4 Try.prog 112 #[.int .i64 sz, .int .i64 k] W _ := callsIn_wide.2 (increasing_c sz k W)
      have HCL := hid hcl
      clear hcl
      gi_wp2_with ((try refine ⟨trivial, ?_⟩); (try refine ⟨hdd _, ?_⟩); gi_at_call 112; with_reducible refine HCL.out.mono ?_; clear HCL; rintro e W1 ⟨rfl, hE1, hq1, hq2⟩)
      have hk7 : k ≤ 7 := by omega
      have hz1 := heap_lt hq1
      have hz0 := heap_lt hq2
      have hfb : w.heap.size + 1 < W1.heap.size := by have := hE1.size; omega
      have hBW1 := hE1.heap HB.out
      have hSW1 := hE1.heap HS.out
      have HBW := hid hBW1
      have HSW := hid hSW1
      have hnd1 : (W1.heap.size :: Ds).Nodup := List.nodup_cons.2 ⟨fun hm => by have := heap_lt (HD.out _ hm).2; have := hE1.size; omega, hnd⟩
      have hN : ∀ (B : Nat) (x y : World), W1.heap.size ≤ B → Bar W1.heap.size B x y → Ev W1 x → Ev W1 y := fun B x y hB hb h => Below.trans h (hb.below (Nat.le_refl _) h.size)
      refine rangeX (F := Fence.wide) (n := 5) rfl (by omega) (gf := 124) (lb := #[.pointer (some ⟨W.heap.size + 1, 0, none⟩), .pointer (some ⟨W.heap.size, 0, none⟩)]) rfl trivial (fun args w => Try.call124 args w)
        (incr_seq Fence.wide rfl trivial trivial rfl 4 (W.heap.size + 1) W.heap.size k sz hk7 hsz W1 hq1 hq2) (Below.refl _ _) (fun j hj => by rcases hj with rfl | rfl <;> assumption) (fun _ => rfl) (incH_keep k)
        (fun _ pre X => (∀ x ∈ pre, p x = false) ∧ Ev W1 X)
        (fun B c pre X => c = .exit 0 ∧ ∃ x pre0 v, pre = pre0 ++ [x] ∧ (∀ y ∈ pre0, p y = false) ∧ p x = true ∧ Bar (w.heap.size + 1) (w.heap.size + 2) W1 X ∧ X.heap[w.heap.size + 1]? = some (.cells #[v] 27 (0, 0)) ∧ X.ownsRow B 3 1 v x.length (x.flatMap ics) ∧ x.length ≤ 7)
        (fun _ x a' _ => a' = { tmps := #[Value.agg #[v0, .int .i64 sz, .func (.func 93) #[] #[]], .pointer (some ⟨w.heap.size, 0, none⟩), .slice none 0 0, .pointer (some ⟨w.heap.size + 1, 0, none⟩), .int .i64 k, (.slice (some ⟨W1.heap.size + 2 + 1, 0, none⟩) k k), .pointer (some ⟨w.heap.size, 1, none⟩), .int .i64 sz, .int .i64 ((sz : Int) + 1), .int .i64 k, .bool true, .int .i64 k, .pointer (some ⟨w.heap.size, 1, none⟩), .int .i64 sz, .int .i64 k, .func (.func 124) #[] #[.pointer (some ⟨W.heap.size + 1, 0, none⟩), .pointer (some ⟨W.heap.size, 0, none⟩)], (.slice (some ⟨W1.heap.size + 2 + 1, 0, none⟩) k k), u17, u18, u19, u20, u21, u22, u23, u24, u25, u26, u27], defers := [] })
        (fun B s x y hB h hb => ⟨h.1, hN B x y hB hb h.2⟩)
        (fun c B s x y hB h hb => by
          obtain ⟨rfl, z, pre0, v, h1, h2, h3, h4, h5, h6, h7⟩ := h
          refine ⟨rfl, z, pre0, v, h1, h2, h3, ⟨hb.os.trans h4.os, hb.tape.trans h4.tape, hb.output.trans h4.output, Nat.le_trans h4.size hb.size, fun j hj hn => ?_⟩, ?_, ownsRow_bar h6 hb, h7⟩
          · exact (hb.block j (by have := h4.size; omega) (by omega)).trans (h4.block j hj hn)
          · exact (hb.block _ (heap_lt h5) (by omega)).trans h5)
        (fun a' B s x y hB h hb => h)
        (fun X hX => ⟨by simp, hX⟩) ?assign ?body ?done ?stop
      case assign =>
        intro l B pre x X K hB hBX hI _ hK
        unfold incE
        gi_wp2
        exact hK _ _ (Ev.refl _) rfl
      case body =>
        rintro l B pre x a' X hB hBX ⟨hp, hEX⟩ rfl hh hpre
        obtain ⟨i0, hi, hz0', hz1', hz2'⟩ := info_parts info3
        have hxm : x ∈ M.incr sz k 0 := hpre.subset (by simp)
        have hEw := (hE.trans hE1).trans hEX
        have hsx := hh.2.keep (Below.refl _ X) hBX
        have hcx : CallsIn (Fence.wide.inRound l) 2 Try.prog 93 #[v0, .slice (some ⟨W1.heap.size + 2 + 1, 0, none⟩) k k] X _ := CallsIn.inRound l (callsIn_wide.2 (HCB.out X _ _ _ x k hEw hsx hxm))
        obtain ⟨s0, s1, s2⟩ := cells3 (hEX.heap HSW.out)
        have hxl : x.length = k := hsx.len
        have HCX := hid hcx
        have HSX := hid hsx
        clear hcx hsx
        cases hpx : p x with
        | true =>
          rw [hpx] at HCX
          have HPX := hid hpx
          clear hpx
          gi_wp2_with (first | ((try refine ⟨trivial, ?_⟩); (try refine ⟨hdd _, ?_⟩); gi_at_call 93; with_reducible refine HCX.out.mono ?_; rintro e X1 ⟨rfl, hE3⟩; have hB3 := (hE3.heap (hEX.heap HBW.out)); have b3 := cell_in hB3 0; simp only [List.getElem?_toArray, List.getElem?_cons_zero] at b3) | (gi_at_builtin; refine wpListIn_append_own _ rfl (.tmp 23) (.tmp 24) 27 rfl B 3 i0 _ 1 8 Try.underlying27 hi hz0' hz1' hz2' rfl (by decide) (.slice none 0 0) 0 [] rfl (World.ownsRow_nil _ _ _ _) ⟨W1.heap.size + 2 + 1, 0, none⟩ k k (x.flatMap ics) rfl (by rw [flat_len ics 1 x (fun _ _ => rfl), hxl]) (slice_news (HSX.out.ev hE3)) (ics_one x) (by unfold maxLen; omega) (by omega) (by have := hE3.size; omega) ?_; intro v' X2 hown' hgrow _; obtain ⟨D', d', rfl, hsl'⟩ := Sl.of_own (enc := ics) (sz := 1) (xs := x) (by decide) (fun _ _ => rfl) (by omega) hown'; have hB4 : X2.heap[w.heap.size + 1]? = some (.cells #[.slice none 0 0] 27 (0, 0)) := (hgrow.block _ (heap_lt hB3) (by simp [Value.ownBlock])).trans hB3; have b4 := cell_in hB4 0; have b5 := frozen_in hB4 0; simp only [List.getElem?_toArray, List.getElem?_cons_zero] at b4))
          have hE4 : Ev X X2 := Ev.grown hE3 hgrow (fun k e => by simp [Value.ownBlock] at e)
          rw [List.nil_append] at hown'
          have hown2 : X2.ownsRow B 3 1 (.slice D' k d') x.length (x.flatMap ics) := by rw [hxl]; simpa using hown'
          refine ⟨⟨?_, fun j hj hor => ?_⟩, rfl, x, pre, rfl, hp, HPX.out, ?_, .slice D' k d', by rw [set_heap_same hB4]; rfl, ?_, by omega⟩
          · have := hE4.size
            simpa [World.setCell] using this
          · rcases hor with hf | hor
            · exact hf.elim
            · exact (Below.heap_setCell _ _ _ j (by simp; omega)).trans (hE4.block j hj)
          · exact (Bar.ev (hEX.trans hE4)).trans (Bar.setCell _ (by simp) (by simp))
          · have := ownsRow_setCell_below hown2 (a := ⟨w.heap.size + 1, 0, none⟩) (show w.heap.size + 1 < B by omega) (.slice D' k d')
            simpa using this
        | false =>
          rw [hpx] at HCX
          have HPX := hid hpx
          clear hpx
          gi_wp2_with ((try refine ⟨trivial, ?_⟩); (try refine ⟨hdd _, ?_⟩); gi_at_call 93; with_reducible refine HCX.out.mono ?_; rintro e X1 ⟨rfl, hE3⟩)
          refine ⟨⟨hE3.size, fun j hj _ => hE3.block j hj⟩, fun y hy => ?_, hEX.trans hE3⟩
          rcases List.mem_append.1 hy with hy | hy
          · exact hp y hy
          · rw [show y = x by simpa using hy]; exact HPX.out
      case done =>
        rintro B X hB ⟨hp, hEX⟩ hD
        gi_wp2
        refine ⟨⟨k + 1, W1.heap.size :: Ds, _, _, _, _, _, _, _, _, _, _, _, _, _, _, _, _, _, _, _, _, by rw [show ((k + 1 : Nat) : Int) = (k : Int) + 1 from by omega]; rfl, by omega, (hE.trans hE1).trans hEX, hid (hEX.heap HSW.out), hid (hEX.heap HBW.out), hnd1, hid ?_, hid ?_⟩, by simp [intOf]; omega⟩
        · intro D hDm
          rcases List.mem_cons.1 hDm with rfl | hDm
          · exact ⟨by omega, hD⟩
          · exact ⟨(HD.out D hDm).1, hEX.heap (hE1.heap (HD.out D hDm).2)⟩
        · rw [← HF.out, show sz + 1 - k = (sz + 1 - (k + 1)) + 1 from by omega]
          have hfn : (M.incr sz k 0).find? p = none := List.find?_eq_none.2 (fun x hx => by rw [hp x hx]; decide)
          conv => rhs; unfold M.first
          rw [hfn]
      case stop =>
        rintro B c pre X hB hpre ⟨rfl, x, pre0, v, rfl, hp, hpx, hbar, hbx, hown, hx7⟩ hD
        obtain ⟨D', d', rfl, hsl'⟩ := Sl.of_own (enc := ics) (sz := 1) (xs := x) (by decide) (fun _ _ => rfl) (by omega) hown
        have b5 := cell_in hbx 0
        simp only [List.getElem?_toArray, List.getElem?_cons_zero] at b5
        gi_wp2
        have hfn : (M.incr sz k 0).find? p = some x := by
          obtain ⟨r, hr⟩ := hpre
          rw [← hr, List.append_assoc, List.find?_append, List.find?_eq_none.2 (fun y hy => by rw [hp y hy]; decide)]
          simp [hpx]
        have hxs : M.shortest p sz = x := by
          rw [← HF.out, show sz + 1 - k = (sz + 1 - (k + 1)) + 1 from by omega]
          unfold M.first
          rw [hfn]
        show LeavesInM Fence.wide 5 Try.prog Try.f94 _ _ (marks (W1.heap.size :: Ds)) .returning X
        have hEb : Below w.heap.size w X := Below.trans (hE.trans hE1) (hbar.below (by omega) (by have := (hE.trans hE1).size; omega))
        refine leaves_marks (A := w.heap.size) (W1.heap.size :: Ds) X hnd1 (fun D hDm => ?_) (fun w' hb' hk' => ?_)
        · rcases List.mem_cons.1 hDm with rfl | hDm
          · exact ⟨by omega, hD⟩
          · obtain ⟨h1, h2⟩ := HD.out D hDm
            exact ⟨by omega, (hbar.block D (heap_lt (hE1.heap h2)) (by omega)).trans (hE1.heap h2)⟩
        · have hnm : ∀ (j : Nat) (o : Obj), X.heap[j]? = some o → o.isCells = true → w'.heap[j]? = some o := fun j o ho hc => by
            refine (hk' j (fun hm => ?_)).trans ho
            have : X.heap[j]? = some (.deferred (some [])) := by
              rcases List.mem_cons.1 hm with rfl | hm
              · exact hD
              · obtain ⟨h1, h2⟩ := HD.out j hm
                exact (hbar.block j (heap_lt (hE1.heap h2)) (by omega)).trans (hE1.heap h2)
            rw [this] at ho
            cases ho
            cases hc
          obtain ⟨D2, d2, he2, hsl2⟩ := Sl.of_own (enc := ics) (sz := 1) (xs := x) (by decide) (fun _ _ => rfl) (by omega) (ownsRow_cells hown hnm)
          refine ⟨_, results_tmp rfl _ _ _, ⟨D2, d2, ?_, ?_⟩, Below.trans hEb hb'⟩
          · rw [hxs, ← he2]; rfl
          · rw [hxs]; exact hsl2
    · have hks : k = sz + 1 := by omega
      subst hks
      have hF := HF.out
      rw [Nat.sub_self] at hF
      have HFF := hid hF
      clear hF
      gi_wp2
      show LeavesInM Fence.wide 5 Try.prog Try.f94 _ _ (marks Ds) .returning W
      refine leaves_marks (A := w.heap.size) Ds W hnd (fun D hDm => ⟨by have := (HD.out D hDm).1; omega, (HD.out D hDm).2⟩) (fun w' hb' _ => ?_)
      refine ⟨_, results_tmp rfl _ _ _, ⟨none, 0, ?_, ?_⟩, Below.trans hE hb'⟩
      · rw [← HFF.out]; rfl
      · rw [← HFF.out]; exact ⟨rfl, Nat.le_refl _, by simp [M.first], fun h => by simp [M.first] at h⟩

theorem shortA_c (v0 v1 v2 : Value) (sz : Nat) (hsz : sz ≤ 7) (p : List Int → Bool) (w : World) 
    (hcb : ∀ W B m d rows L, Ev w W → Sl ics 1 W W.heap.size B m d rows → rows ∈ M.incr sz L 0 → Calls Try.prog 83 #[.agg #[v0, v1, v2], .slice B m d] W fun e w' => e = .returned (.bool (p rows)) ∧ Ev W w') :
    Calls Try.prog 84 #[.agg #[v0, v1, v2, .int .i64 sz, .func (.func 83) #[] #[]]] w fun e w' => (∃ B d, e = .returned (.slice B (M.shortest p sz).length d) ∧ Sl ics 1 w' w'.heap.size B (M.shortest p sz).length d (M.shortest p sz)) ∧ Ev w w' :=
  callsIn_wide.1 (shortA_in v0 v1 v2 sz hsz p w hcb)

theorem shortW_c (v0 : Value) (sz : Nat) (hsz : sz ≤ 7) (p : List Int → Bool) (w : World) 
    (hcb : ∀ W B m d rows L, Ev w W → Sl ics 1 W W.heap.size B m d rows → rows ∈ M.incr sz L 0 → Calls Try.prog 93 #[v0, .slice B m d] W fun e w' => e = .returned (.bool (p rows)) ∧ Ev W w') :
    Calls Try.prog 94 #[.agg #[v0, .int .i64 sz, .func (.func 93) #[] #[]]] w fun e w' => (∃ B d, e = .returned (.slice B (M.shortest p sz).length d) ∧ Sl ics 1 w' w'.heap.size B (M.shortest p sz).length d (M.shortest p sz)) ∧ Ev w w' :=
  callsIn_wide.1 (shortW_in v0 sz hsz p w hcb)

theorem M.incr_range (sz : Nat) : ∀ (L frm : Nat) (l : List Int), l ∈ M.incr sz L frm → ∀ r ∈ l, 0 ≤ r ∧ r < sz
  | 0, _, l, h, r, hr => by simp [M.incr] at h; subst h; simp at hr
  | L + 1, frm, l, h, r, hr => by
    unfold M.incr at h
    obtain ⟨k, hk, h⟩ := List.mem_flatMap.1 h
    obtain ⟨l', hl', rfl⟩ := List.mem_map.1 h
    rw [List.mem_range'] at hk
    obtain ⟨i, hi, rfl⟩ := hk
    rcases List.mem_cons.1 hr with rfl | hr
    · omega
    · exact M.incr_range sz L _ l' hl' r hr

end Go.Proofs.Ytcecmphdmpeibaa

namespace Go.Proofs.Ytcecmphdmpeibaa
open Go.RowKit Go.Shelf
attribute [local go_sem] Oper.semAt_some

def M.pad (pre : List Int) : List Int := pre ++ List.replicate (7 - pre.length) (-2)
/-- The allowed sheets whose first rows are given, so many rows being left. -/
def M.fill (f : M.Fl) (D : Nat) : Nat → List Int → List (List Int)
  | 0, pre => if M.allows f (M.pad pre) then [M.pad pre] else []
  | j + 1, pre => (List.range' 0 (D + 1)).flatMap fun (k : Nat) => M.fill f D j (pre ++ [(k : Int) - 1])

structure FilS (A : Option Addr) (m c : Nat) (f : M.Fl) (pf ps py pc l : Nat) (y : List Int) (W : World) : Prop where
  fld : W.heap[pf]? = some (.cells #[.int .i64 f.rows, .int .i64 f.wds, .int .i64 f.lf.lo, .int .i64 f.lf.hi, .slice A m c] 36 (0, 0))
  sht : W.heap[ps]? = some (.cells (y.map (Value.int .i64)).toArray 101 (0, 0))
  yld : W.heap[py]? = some (.cells #[.func (.yield l) #[] #[]] 103 (0, 0))
  cho : W.heap[pc]? = some (.cells #[.func (.func 129) #[] #[.pointer (some ⟨pf, 0, none⟩), .pointer (some ⟨ps, 0, none⟩), .pointer (some ⟨py, 0, none⟩), .pointer (some ⟨pc, 0, none⟩)]] 99 (0, 0))
  ylen : y.length = 7

theorem FilS.blocks {A : Option Addr} {m c : Nat} {f : M.Fl} {pf ps py pc l : Nat} {y : List Int} {X Y : World} (h : FilS A m c f pf ps py pc l y X) (h1 : Y.heap[pf]? = X.heap[pf]?) (h2 : Y.heap[ps]? = X.heap[ps]?) (h3 : Y.heap[py]? = X.heap[py]?) (h4 : Y.heap[pc]? = X.heap[pc]?) : FilS A m c f pf ps py pc l y Y :=
  ⟨h1.trans h.fld, h2.trans h.sht, h3.trans h.yld, h4.trans h.cho, h.ylen⟩
theorem FilS.ev {A : Option Addr} {m c : Nat} {f : M.Fl} {pf ps py pc l : Nat} {y : List Int} {X Y : World} (h : FilS A m c f pf ps py pc l y X) (he : Ev X Y) : FilS A m c f pf ps py pc l y Y :=
  ⟨he.heap h.fld, he.heap h.sht, he.heap h.yld, he.heap h.cho, h.ylen⟩

def sheE (_ : Nat) (x : List Int) : Array Value := #[sv x]
def sheH (_ _ : Nat) (x : List Int) (_ : World) : Prop := x.length = 7

theorem M.pad_len {pre : List Int} (h : pre.length ≤ 7) : (M.pad pre).length = 7 := by simp [M.pad]; omega

set_option maxRecDepth 100000 in
set_option maxHeartbeats 4000000 in
theorem fill_in (l B0 B pf ps py pc : Nat) (O : Option Addr) (m c : Nat) (f : M.Fl) (rs D : Nat) (hrs : f.rows = rs) (hD : f.wds = D) (h1 : 1 ≤ rs) (h7 : rs ≤ 7) (hD3 : D ≤ 3)
    (R : Nat → Prop) (r1 : R pf) (hpf : pf < B0) (b1 : B0 ≤ ps) (b2 : ps < B) (b3 : B0 ≤ py) (b4 : py < B) (b5 : B0 ≤ pc) (b6 : pc < B) (d1 : ps ≠ py) (d2 : ps ≠ pc) (xs : List (List Int))
    (J Jx : Nat → List (List Int) → World → Prop) (hJ : Abides B0 J)
    (hY : ∀ n pre x W1, B ≤ W1.heap.size → J B pre W1 → x.length = 7 → pre ++ [x] <+: xs → YieldAt Fence.wide n Try.prog l (sheE B0 x) W1 fun e W' =>
      (e = .returned (.bool true) ∧ J B (pre ++ [x]) W' ∧ Kept R B0 B W1 W') ∨ (e = .returned (.bool false) ∧ Jx B (pre ++ [x]) W')) (j : Nat) :
    ∀ (n : Nat) (row : Nat) (pre y : List Int) (don : List (List Int)) (W : World), row + j = rs → FilS O m c f pf ps py pc l y W → B ≤ W.heap.size → y.take row = pre → y.drop rs = List.replicate (7 - rs) (-2) → J B don W → don ++ M.fill f D j pre <+: xs →
      CallsIn Fence.wide n Try.prog 129 #[.int .i64 row, .pointer (some ⟨pf, 0, none⟩), .pointer (some ⟨ps, 0, none⟩), .pointer (some ⟨py, 0, none⟩), .pointer (some ⟨pc, 0, none⟩)] W fun e W' =>
        (e = .returned (.bool true) ∧ J B (don ++ M.fill f D j pre) W' ∧ W.heap.size ≤ W'.heap.size ∧ ∃ y', FilS O m c f pf ps py pc l y' W' ∧ y'.take row = pre ∧ y'.drop rs = List.replicate (7 - rs) (-2)) ∨ (e = .returned (.bool false) ∧ ∃ q, q <+: xs ∧ Jx B q W') := by
  have hdd : ∀ k : Nat, (Fence.wide.depth.isSome = true → 1 ≤ k) := fun k h => by cases h
  induction j with
  | zero =>
    intro n row pre y don W ht hS hz hy hyd hJd hpx
    obtain rfl : row = rs := by omega
    have hyl := hS.ylen
    have hpl : pre.length = row := by rw [← hy, List.length_take, hyl]; omega
    have hyp : y = M.pad pre := by
      unfold M.pad
      rw [hpl, ← hyd, ← hy, List.take_append_drop]
    have HPD := hid hyp
    have hal := fun W' => (callsIn_wide (n := n - 1)).2 (allows_c f O m c y hyl (by omega) (by omega) W')
    obtain ⟨m0, m1, m2, m3, m4, m5, m6, hye⟩ := list7 hyl
    have hsv : sv y = .agg #[.int .i64 m0, .int .i64 m1, .int .i64 m2, .int .i64 m3, .int .i64 m4, .int .i64 m5, .int .i64 m6] := by rw [hye]; rfl
    have hsm : (y.map (Value.int .i64)).toArray = #[.int .i64 m0, .int .i64 m1, .int .i64 m2, .int .i64 m3, .int .i64 m4, .int .i64 m5, .int .i64 m6] := by rw [hye]; rfl
    have hq := hS.sht
    rw [hsm] at hq
    have HQ := hid hq
    have hyy : ∀ W1, Ev W W1 → M.allows f y = true → YieldAt Fence.wide (n - 1) Try.prog l #[sv y] W1 fun e W' =>
        (e = .returned (.bool true) ∧ J B (don ++ [y]) W' ∧ Kept R B0 B W1 W') ∨ (e = .returned (.bool false) ∧ Jx B (don ++ [y]) W') := fun W1 hE ha =>
      hY (n - 1) don y W1 (Nat.le_trans hz hE.size) (hJ _ _ _ _ (by omega) hJd (Bar.ev hE)) hyl (by rw [hyp] at ha ⊢; simp only [M.fill, ha, if_true] at hpx; exact hpx)
    rw [hsv] at hal hyy
    unfold fv at hal
    rw [hrs, hD] at hal
    have HAL := hid hal
    have HYY := hid hyy
    obtain ⟨t0, t1, t2, t3, t4, t5, t6⟩ := cells7 hq
    obtain ⟨g0, g1, g2, g3, g4⟩ := cells5 hS.fld
    have y0 := cell_in hS.yld 0
    simp only [List.getElem?_toArray, List.getElem?_cons_zero] at y0
    have HFD := hid (show M.fill f D 0 pre = if M.allows f y then [y] else [] by rw [hyp]; rfl)
    clear hal hyy hye hsv hsm hq hyp
    cases ha : M.allows f y with
    | true =>
      rw [ha] at HAL
      have HA := hid ha
      clear ha
      refine callsIn_of_wp Try.func129 rfl trivial ?_ rfl
      simp only [Try.ntmps129, List.size_toArray, List.length_cons, List.length_nil, Nat.reduceAdd, Nat.reduceSub, Array.replicate_succ, Array.replicate_zero, List.push_toArray, List.append_toArray, List.nil_append, List.cons_append]
      gi_wp2_with (first | ((try refine ⟨trivial, hdd _, ?_⟩); gi_at_call 71; with_reducible refine (HAL.out _).mono ?_; rintro e W1 ⟨rfl, hE1⟩; have hr := HYY.out W1 hE1 HA.out; unfold YieldAt at hr; obtain ⟨fn, tmps, assign, body, hy1, hR⟩ := hr; have y1 := cell_in (hE1.heap hS.yld) 0; simp only [List.getElem?_toArray, List.getElem?_cons_zero] at y1; obtain ⟨w0, w1, w2, w3, w4, w5, w6⟩ := cells7 (hE1.heap HQ.out)) | ((try refine ⟨hdd _, ?_⟩); refine hR.mono ?_; clear hR; rintro e W2 (⟨rfl, hJ2, hk2⟩ | ⟨rfl, hx2⟩)))
      · go_ret
        refine .inl ⟨rfl, ?_, Nat.le_trans hE1.size hk2.size, y, (hS.ev hE1).blocks (hk2.block _ (heap_lt (hE1.heap hS.fld)) (.inl r1)) (hk2.block _ (heap_lt (hE1.heap hS.sht)) (.inr (by omega))) (hk2.block _ (heap_lt (hE1.heap hS.yld)) (.inr (by omega))) (hk2.block _ (heap_lt (hE1.heap hS.cho)) (.inr (by omega))), hy, hyd⟩
        rw [HFD.out, HA.out, if_pos rfl]
        exact hJ2
      · go_ret
        refine .inr ⟨rfl, _, ?_, hx2⟩
        rw [HFD.out, HA.out, if_pos rfl] at hpx
        exact hpx
    | false =>
      rw [ha] at HAL
      have HA := hid ha
      clear ha
      refine callsIn_of_wp Try.func129 rfl trivial ?_ rfl
      simp only [Try.ntmps129, List.size_toArray, List.length_cons, List.length_nil, Nat.reduceAdd, Nat.reduceSub, Array.replicate_succ, Array.replicate_zero, List.push_toArray, List.append_toArray, List.nil_append, List.cons_append]
      gi_wp2_with (first | ((try refine ⟨trivial, hdd _, ?_⟩); gi_at_call 71; with_reducible refine (HAL.out _).mono ?_; rintro e W1 ⟨rfl, hE1⟩; have y1 := cell_in (hE1.heap hS.yld) 0; simp only [List.getElem?_toArray, List.getElem?_cons_zero] at y1; obtain ⟨w0, w1, w2, w3, w4, w5, w6⟩ := cells7 (hE1.heap HQ.out)))
      refine ⟨fun _ h => (by cases h), ?_⟩
      gi_wp2
      go_ret
      refine .inl ⟨rfl, ?_, hE1.size, y, hS.ev hE1, hy, hyd⟩
      rw [HFD.out, HA.out, if_neg (by decide), List.append_nil]
      exact hJ _ _ _ _ (by omega) hJd (Bar.ev hE1)
  | succ j ih =>
    intro n row pre y don W ht hS hz hy hyd hJd hpx
    have hrr : ((row : Int) == (rs : Int)) = false := by simp; omega
    obtain ⟨g0, g1, g2, g3, g4⟩ := cells5 hS.fld
    refine callsIn_of_wp Try.func129 rfl trivial ?_ rfl
    simp only [Try.ntmps129, List.size_toArray, List.length_cons, List.length_nil, Nat.reduceAdd, Nat.reduceSub, Array.replicate_succ, Array.replicate_zero, List.push_toArray, List.append_toArray, List.nil_append, List.cons_append]
    gi_wp2
    gi_loopw [7] (fun v wr => ∃ k : Nat, ∃ y', ∃ don' : List (List Int), v = .int .i64 ((k : Int) - 1) ∧ k ≤ D + 1 ∧ FilS O m c f pf ps py pc l y' wr ∧ W.heap.size ≤ wr.heap.size ∧ Hid (y'.take row = pre) ∧ Hid (y'.drop rs = List.replicate (7 - rs) (-2)) ∧ J B don' wr ∧ Hid (don' ++ (List.range' k (D + 1 - k)).flatMap (fun (i : Nat) => M.fill f D j (pre ++ [(i : Int) - 1])) = don ++ M.fill f D (j + 1) pre)) (fun v _ => D + 1 - (intOf v + 1).toNat)
    case atStart => exact ⟨0, y, don, rfl, by omega, hS, Nat.le_refl _, hid hy, hid hyd, hJd, hid rfl⟩
    case round =>
      obtain ⟨k, y', don', rfl, hk, hS', hz', HY', HYD, hJ', HD⟩ := hrel
      obtain ⟨g0, g1, g2, g3, g4⟩ := cells5 hS'.fld
      have g6 := cell_in hS'.cho 0
      simp only [List.getElem?_toArray, List.getElem?_cons_zero] at g6
      by_cases hlt : k < D + 1
      · have hlt' : (k : Int) - 1 < (D : Int) := by omega
        have hrow7 : (row : Int) < 7 := by omega
        have hprl : pre.length = row := by rw [← HY'.out, List.length_take, hS'.ylen]; omega
        have c5 : wr.cell? ⟨ps, row, none⟩ = some (.int .i64 (y'.getD row 0)) := by
          rw [cell_in hS'.sht row, List.getElem?_toArray, List.getElem?_map, List.getD_eq_getElem?_getD, List.getElem?_eq_getElem (by rw [hS'.ylen]; omega)]; rfl
        have c6 := frozen_in hS'.sht row
        have hrl : row < y'.length := by rw [hS'.ylen]; omega
        generalize y'.getD row 0 = u0 at c5
        have hS1 : FilS O m c f pf ps py pc l (y'.set row ((k : Int) - 1)) (wr.setCell ⟨ps, row, none⟩ (.int .i64 ((k : Int) - 1))) :=
          ⟨set_heap hS'.fld (by simp; omega), by rw [set_heap_same hS'.sht]; simp [List.map_set], set_heap hS'.yld (by simp; omega), set_heap hS'.cho (by simp; omega), by rw [List.length_set]; exact hS'.ylen⟩
        have hsz1 : (wr.setCell ⟨ps, row, none⟩ (.int .i64 ((k : Int) - 1))).heap.size = wr.heap.size := by simp [World.setCell]
        have hsplit : List.range' k (D + 1 - k) = k :: List.range' (k + 1) (D + 1 - (k + 1)) := by rw [show D + 1 - k = (D + 1 - (k + 1)) + 1 from by omega]; rfl
        have hDD := HD.out
        rw [hsplit, List.flatMap_cons, ← List.append_assoc] at hDD
        have hpre1 : don' ++ M.fill f D j (pre ++ [(k : Int) - 1]) <+: xs := List.IsPrefix.trans ⟨_, hDD⟩ hpx
        have hih := ih (n - 1) (row + 1) (pre ++ [(k : Int) - 1]) (y'.set row ((k : Int) - 1)) don' (wr.setCell ⟨ps, row, none⟩ (.int .i64 ((k : Int) - 1))) (by omega) hS1 (by omega)
          (by rw [List.take_add_one, List.take_set_of_le (Nat.le_refl _), HY'.out]; simp [hrl]) (by rw [List.drop_set_of_lt (by omega)]; exact HYD.out) (hJ _ _ _ _ (by omega) hJ' (Bar.setCell _ b1 b2)) hpre1
        rw [show ((row + 1 : Nat) : Int) = (row : Int) + 1 from by omega] at hih
        have HIH := hid hih
        have HD2 := hid hDD
        clear hih ih hDD hsplit hpre1
        gi_wp2_with ((try refine ⟨trivial, hdd _, ?_⟩); gi_at_call 129; with_reducible refine HIH.out.mono ?_; clear HIH; rintro e W2 (⟨rfl, hJ2, hz2, y2, hS2, hy2, hyd2⟩ | ⟨rfl, q, hq, hx2⟩))
        · refine ⟨⟨k + 1, y2, _, by rw [show ((k + 1 : Nat) : Int) - 1 = k from by omega], by omega, hS2, by rw [hsz1] at hz2; omega, hid ?_, hid hyd2, hJ2, HD2⟩, by simp [intOf]; omega⟩
          have h3 : (y2.take (row + 1)).take row = (pre ++ [(k : Int) - 1]).take row := by rw [hy2]
          rw [List.take_take, Nat.min_eq_left (by omega), List.take_left' hprl] at h3
          exact h3
        · go_ret
          exact .inr ⟨rfl, q, hq, hx2⟩
      · have hks : k = D + 1 := by omega
        subst hks
        have hDD := HD.out
        rw [Nat.sub_self] at hDD
        simp only [List.range'_zero, List.flatMap_nil, List.append_nil] at hDD
        have HDD := hid hDD
        clear hDD
        have hlt' : ¬ ((((D + 1 : Nat) : Int) - 1) < (D : Int)) := by omega
        gi_wp2
        go_ret
        exact .inl ⟨rfl, by rw [← HDD.out]; exact hJ', hz', y', hS', HY'.out, HYD.out⟩
end Go.Proofs.Ytcecmphdmpeibaa

namespace Go.Proofs.Ytcecmphdmpeibaa
open Go.RowKit Go.Shelf
attribute [local go_sem] Oper.semAt_some

set_option maxRecDepth 100000 in
set_option maxHeartbeats 4000000 in
theorem fill_seq (n pf : Nat) (O : Option Addr) (m c : Nat) (f : M.Fl) (rs D : Nat) (hrs : f.rows = rs) (hD : f.wds = D) (h1 : 1 ≤ rs) (h7 : rs ≤ 7) (hD3 : D ≤ 3) (w0 : World)
    (q1 : w0.heap[pf]? = some (.cells #[.int .i64 f.rows, .int .i64 f.wds, .int .i64 f.lf.lo, .int .i64 f.lf.hi, .slice O m c] 36 (0, 0))) :
    SeqX Fence.wide n Try.prog 128 #[.pointer (some ⟨pf, 0, none⟩)] sheE sheH (fun k => k = pf) (M.fill f D rs []) w0 := by
  intro l J Jx W hW hJ hJx hY h0
  have hdd : ∀ k : Nat, (Fence.wide.depth.isSome = true → 1 ≤ k) := fun k h => by cases h
  have hpl := heap_lt q1
  have hws := hW.size
  have hplW : pf < W.heap.size := by omega
  have hch : ∀ W4 B py pc ps, Ev W W4 → W4.heap.size = B → W.heap.size ≤ ps → ps < B → W.heap.size ≤ py → py < B → W.heap.size ≤ pc → pc < B → ps ≠ py → ps ≠ pc → FilS O m c f pf ps py pc l M.blank W4 →
      CallsIn Fence.wide (n - 1) Try.prog 129 #[.int .i64 0, .pointer (some ⟨pf, 0, none⟩), .pointer (some ⟨ps, 0, none⟩), .pointer (some ⟨py, 0, none⟩), .pointer (some ⟨pc, 0, none⟩)] W4 fun e W' =>
        (∃ b, e = .returned (.bool b)) ∧ ∃ B, W.heap.size ≤ B ∧ (J B (M.fill f D rs []) W' ∨ ∃ pre, pre <+: M.fill f D rs [] ∧ Jx B pre W') := by
    intro W4 B py pc ps hE hs a1 a2 a3 a4 a5 a6 a7 a8 hS
    have := fill_in l W.heap.size B pf ps py pc O m c f rs D hrs hD h1 h7 hD3 (fun k => k = pf) rfl hplW a1 a2 a3 a4 a5 a6 a7 a8 (M.fill f D rs []) J Jx hJ
      (fun k pre x W1 h1 h2 h3 h4 => yield_any rfl k (hY B pre x W1 (by omega) h1 h2 h3 h4)) rs (n - 1) 0 [] M.blank [] W4 (by omega) hS (by omega) (by simp) (by
        rcases rs with _ | _ | _ | _ | _ | _ | _ | _ | rs <;> first | rfl | omega) (by rw [← hs]; exact h0 W4 hE) (by simp)
    refine CallsIn.mono this ?_
    rintro e W' (⟨rfl, hj, _, _⟩ | ⟨rfl, q, hq, hx⟩)
    · exact ⟨⟨_, rfl⟩, B, by omega, .inl (by simpa using hj)⟩
    · exact ⟨⟨_, rfl⟩, B, by omega, .inr ⟨q, hq, hx⟩⟩
  have HCH := hid hch
  have Q1 := hid ((hW.block pf hpl).trans q1)
  have hbl := fun W' => (callsIn_wide (n := n - 1)).2 (blank_c W')
  have HBL := hid hbl
  clear hch hbl
  refine callsIn_of_wp Try.func128 rfl trivial ?_ rfl
  simp only [Try.ntmps128, List.size_toArray, List.length_cons, List.length_nil, Nat.reduceAdd, Nat.reduceSub, Array.replicate_succ, Array.replicate_zero, List.push_toArray, List.append_toArray, List.nil_append, List.cons_append]
  gi_wp2_with ((try refine ⟨trivial, hdd _, ?_⟩); gi_at_call 70; with_reducible refine (HBL.out _).mono ?_; rintro e W1 ⟨rfl, hE1⟩)
  have hal := alloc2 W1 (.cells #[.int .i64 (-2), .int .i64 (-2), .int .i64 (-2), .int .i64 (-2), .int .i64 (-2), .int .i64 (-2), .int .i64 (-2)] 101) (.cells #[.func (.func 129) #[] #[.pointer (some ⟨pf, 0, none⟩), .pointer (some ⟨W1.heap.size, 0, none⟩), .pointer (some ⟨W.heap.size, 0, none⟩), .pointer (some ⟨W1.heap.size + 1, 0, none⟩)]] 99)
  have hy1 := hE1.heap (alloc1 W (.cells #[.func (.yield l) #[] #[]] 103)).1
  have hs1 := hE1.size
  rw [(alloc1 W (.cells #[.func (.yield l) #[] #[]] 103)).2] at hs1
  have hE2 : Ev W1 ((W1.alloc (.cells #[.int .i64 (-2), .int .i64 (-2), .int .i64 (-2), .int .i64 (-2), .int .i64 (-2), .int .i64 (-2), .int .i64 (-2)] 101)).alloc (.cells #[.func (.func 129) #[] #[.pointer (some ⟨pf, 0, none⟩), .pointer (some ⟨W1.heap.size, 0, none⟩), .pointer (some ⟨W.heap.size, 0, none⟩), .pointer (some ⟨W1.heap.size + 1, 0, none⟩)]] 99)) := Ev.alloc (Ev.alloc (Ev.refl _) _) _
  have hE3 : Ev W ((W1.alloc (.cells #[.int .i64 (-2), .int .i64 (-2), .int .i64 (-2), .int .i64 (-2), .int .i64 (-2), .int .i64 (-2), .int .i64 (-2)] 101)).alloc (.cells #[.func (.func 129) #[] #[.pointer (some ⟨pf, 0, none⟩), .pointer (some ⟨W1.heap.size, 0, none⟩), .pointer (some ⟨W.heap.size, 0, none⟩), .pointer (some ⟨W1.heap.size + 1, 0, none⟩)]] 99)) := Ev.trans (Ev.trans (Ev.alloc (Ev.refl _) _) hE1) hE2
  have hgo := HCH.out _ (W1.heap.size + 2) W.heap.size (W1.heap.size + 1) W1.heap.size hE3 hal.2.2 (by omega) (by omega) (by omega) (by omega) (by omega) (by omega) (by omega) (by omega) ⟨hE3.heap Q1.out, hal.1, hE2.heap hy1, hal.2.1, rfl⟩
  have HGO := hid hgo
  clear hgo hal hy1 hE2 hE3
  gi_wp2_with ((try refine ⟨trivial, hdd _, ?_⟩); gi_at_call 129; with_reducible refine HGO.out.mono ?_; clear HGO; rintro e W2 ⟨⟨b, rfl⟩, hB⟩)
  go_end0
  exact ⟨⟨_, rfl⟩, hB⟩

set_option maxRecDepth 100000 in
set_option maxHeartbeats 1000000 in
theorem allowed_c (f : M.Fl) (A : Option Addr) (m c : Nat) (w : World) :
    Calls Try.prog 117 #[fv f (.slice A m c)] w fun e w' => e = .returned (.func (.func 128) #[] #[.pointer (some ⟨w.heap.size, 0, none⟩)]) ∧ Ev w w' ∧ w'.heap[w.heap.size]? = some (.cells #[.int .i64 f.rows, .int .i64 f.wds, .int .i64 f.lf.lo, .int .i64 f.lf.hi, .slice A m c] 36 (0, 0)) := by
  unfold fv
  have hal := alloc1 w (.cells #[.int .i64 f.rows, .int .i64 f.wds, .int .i64 f.lf.lo, .int .i64 f.lf.hi, .slice A m c] 36)
  have HAL := hid hal
  clear hal
  go_enter Try.func117, Try.ntmps117
  go_wp2
  go_ret
  exact ⟨rfl, Ev.alloc (Ev.refl _) _, HAL.out.1⟩

end Go.Proofs.Ytcecmphdmpeibaa
