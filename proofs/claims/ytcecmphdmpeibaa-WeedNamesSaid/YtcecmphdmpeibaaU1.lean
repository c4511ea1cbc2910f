/- Contracts of package weed's functions, joined; see each part's theorems. -/
import Derived.Test.YtcecmphdmpeibaaRows
import Derived.WalkKit
import Derived.WalkSpells
import Derived.WalkLawsBesides
import Derived.BigQuiet
import Derived.Deep.QuietTactic
import Derived.Deep.RegionHeld3
import Derived.DeepKeys5
import Derived.Maps.OwnOps

set_option linter.unusedSimpArgs false
set_option linter.unusedVariables false
namespace Go.Proofs.Ytcecmphdmpeibaa.M

structure Rg where
  lo : Int
  hi : Int
deriving DecidableEq

structure Tl where
  wd : Int
  fr : Int
  to : Int
  ct : Rg
deriving DecidableEq

structure Fl where
  rows : Int
  wds : Int
  lf : Rg
  ts : List Tl

def holds (r : Rg) (n : Int) : Bool := decide (r.lo ≤ n) && decide (n ≤ r.hi)
def upTo (r : Rg) (l : Int) : Bool := decide (0 ≤ r.lo) && (decide (r.lo ≤ r.hi) && decide (r.hi ≤ l))
def hasRow (f : Fl) (r : Int) : Bool := decide (0 ≤ r) && decide (r < f.rows)
def hasWd (f : Fl) (x : Int) : Bool := decide (0 ≤ x) && decide (x < f.wds)
def canSay (f : Fl) (x : Int) : Bool := (x == -1) || hasWd f x
def validTally (f : Fl) (t : Tl) : Bool := hasWd f t.wd && (hasRow f t.fr && (hasRow f t.to && (decide (t.fr ≤ t.to) && upTo t.ct f.rows)))
def valid (f : Fl) : Bool := decide (1 ≤ f.rows) && (decide (1 ≤ f.wds) && (upTo f.lf f.rows && f.ts.all (validTally f)))
def power (f : Fl) : Int := (f.wds + 1) ^ f.rows.toNat
def check (f : Fl) : Int :=
  if f.rows > 7 ∨ f.wds > 3 ∨ f.ts.length > 5 then 3
  else if valid f = false then 1
  else if power f > 2500 then 3
  else 0


/-- How many of some numbers are x. -/
def cnt (x : Int) : List Int → Int
  | [] => 0
  | y :: r => (if y = x then 1 else 0) + cnt x r

theorem cnt_bd (x : Int) : ∀ l, 0 ≤ cnt x l ∧ cnt x l ≤ l.length
  | [] => by simp [cnt]
  | y :: r => by
    have := cnt_bd x r
    unfold cnt
    split <;> simp <;> omega

/-- The rows from fr to to (both included) of which a sheet says x. -/
def count (l : List Int) (x fr to : Int) : Int := cnt x ((l.drop fr.toNat).take (to.toNat + 1 - fr.toNat))
def allows (f : Fl) (l : List Int) : Bool := holds f.lf (count l (-1) 0 (f.rows - 1))


/-- Is the i-th tally wrong in a sheet? (There is none: no.) -/
def wrongAt (f : Fl) (l : List Int) (i : Nat) : Bool :=
  match f.ts[i]? with
  | some t => !holds t.ct (count l t.wd t.fr t.to)
  | none => false
def wrong (f : Fl) (l : List Int) : List Bool := [wrongAt f l 0, wrongAt f l 1, wrongAt f l 2, wrongAt f l 3, wrongAt f l 4]

/-- A tally of a valid field. -/
def VT (t : Tl) : Prop := 0 ≤ t.fr ∧ t.fr ≤ t.to ∧ t.to ≤ 6 ∧ 0 ≤ t.wd ∧ t.wd ≤ 3

end Go.Proofs.Ytcecmphdmpeibaa.M

namespace Go.Proofs.Ytcecmphdmpeibaa
open Go.RowKit

theorem ret_bool {a b : Bool} (h : a = b) : Ending.returned (.bool a) = .returned (.bool b) := by rw [h]

set_option maxHeartbeats 400000 in
theorem holds_c (r : M.Rg) (n : Int) (w : World) :
    Calls Try.prog 103 #[.agg #[.int .i64 r.lo, .int .i64 r.hi], .int .i64 n] w fun e w' => e = .returned (.bool (M.holds r n)) ∧ Below w.heap.size w w' := by
  go_enter Try.func103, Try.ntmps103
  go_wp2
  all_goals (go_ret; exact ⟨ret_bool (by simp only [M.holds]; first | (simp only [*]; simp; done) | (simp; omega)), (Below.refl _ _).alloc (Nat.le_refl _) _⟩)

set_option maxHeartbeats 400000 in
theorem upTo_c (r : M.Rg) (n : Int) (w : World) :
    Calls Try.prog 100 #[.agg #[.int .i64 r.lo, .int .i64 r.hi], .int .i64 n] w fun e w' => e = .returned (.bool (M.upTo r n)) ∧ Below w.heap.size w w' := by
  go_enter Try.func100, Try.ntmps100
  go_wp2
  all_goals (go_ret; exact ⟨ret_bool (by simp only [M.upTo]; first | (simp only [*]; simp; done) | (simp; omega)), (Below.refl _ _).alloc (Nat.le_refl _) _⟩)

/-- A field's value: the slice of its tallies as it lies. -/
def fv (f : M.Fl) (s : Value) : Value := .agg #[.int .i64 f.rows, .int .i64 f.wds, .int .i64 f.lf.lo, .int .i64 f.lf.hi, s]
/-- A tally's value. -/
def tv (t : M.Tl) : Value := .agg #[.int .i64 t.wd, .int .i64 t.fr, .int .i64 t.to, .int .i64 t.ct.lo, .int .i64 t.ct.hi]

set_option maxHeartbeats 400000 in
theorem hasRow_c (f : M.Fl) (A : Option Addr) (m c : Nat) (n : Int) (w : World) :
    Calls Try.prog 79 #[fv f (.slice A m c), .int .i64 n] w fun e w' => e = .returned (.bool (M.hasRow f n)) ∧ Below w.heap.size w w' := by
  unfold fv
  go_enter Try.func79, Try.ntmps79
  go_wp2
  all_goals (go_ret; exact ⟨ret_bool (by simp only [M.hasRow]; first | (simp only [*]; simp; done) | (simp; omega)), (Below.refl _ _).alloc (Nat.le_refl _) _⟩)

set_option maxHeartbeats 400000 in
theorem hasWd_c (f : M.Fl) (A : Option Addr) (m c : Nat) (n : Int) (w : World) :
    Calls Try.prog 81 #[fv f (.slice A m c), .int .i64 n] w fun e w' => e = .returned (.bool (M.hasWd f n)) ∧ Below w.heap.size w w' := by
  unfold fv
  go_enter Try.func81, Try.ntmps81
  go_wp2
  all_goals (go_ret; exact ⟨ret_bool (by simp only [M.hasWd]; first | (simp only [*]; simp; done) | (simp; omega)), (Below.refl _ _).alloc (Nat.le_refl _) _⟩)

end Go.Proofs.Ytcecmphdmpeibaa

namespace Go.Proofs.Ytcecmphdmpeibaa
open Go.RowKit

/-- The call has only made memory: all that lay lies as it lay. -/
def Ev (w w' : World) : Prop := Below w.heap.size w w'
theorem Ev.refl (w : World) : Ev w w := Below.refl _ _
theorem Ev.size {w w' : World} (h : Ev w w') : w.heap.size ≤ w'.heap.size := Below.size h
theorem Ev.trans {a b c : World} (h : Ev a b) (k : Ev b c) : Ev a c := Below.trans h (Below.mono k h.size)
theorem Ev.alloc {a b : World} (h : Ev a b) (o : Obj) : Ev a (b.alloc o) := Below.alloc h h.size o
theorem Ev.setCell {a b : World} (h : Ev a b) {p : Addr} (hp : a.heap.size ≤ p.block) (v : Value) : Ev a (b.setCell p v) := Below.setCell h hp v
theorem Ev.drew {a b : World} (h : Ev a b) : Ev a b.drew := Below.drew h
theorem Ev.drewN {a b : World} (h : Ev a b) (n : Nat) : Ev a (b.drewN n) := by
  have h' : Below a.heap.size a b := h
  exact ⟨h'.os, h'.tape, h'.output, h'.size, h'.block⟩
theorem Ev.cells {W w1 : World} (hb : Ev W w1) : (∀ b o, b < W.heap.size → w1.cell? ⟨b, o, none⟩ = W.cell? ⟨b, o, none⟩) ∧ (∀ b o, b < W.heap.size → w1.frozen? ⟨b, o, none⟩ = W.frozen? ⟨b, o, none⟩) :=
  ⟨fun b o h => Below.cell hb (p := ⟨b, o, none⟩) h, fun b o h => Below.frozen hb (p := ⟨b, o, none⟩) h⟩

theorem hasWd_e (f : M.Fl) (A : Option Addr) (m c : Nat) (n : Int) (w : World) :
    Calls Try.prog 81 #[fv f (.slice A m c), .int .i64 n] w fun e w' => e = .returned (.bool (M.hasWd f n)) ∧ Ev w w' := hasWd_c f A m c n w
theorem hasRow_e (f : M.Fl) (A : Option Addr) (m c : Nat) (n : Int) (w : World) :
    Calls Try.prog 79 #[fv f (.slice A m c), .int .i64 n] w fun e w' => e = .returned (.bool (M.hasRow f n)) ∧ Ev w w' := hasRow_c f A m c n w
theorem holds_e (r : M.Rg) (n : Int) (w : World) :
    Calls Try.prog 103 #[.agg #[.int .i64 r.lo, .int .i64 r.hi], .int .i64 n] w fun e w' => e = .returned (.bool (M.holds r n)) ∧ Ev w w' := holds_c r n w
theorem upTo_e (r : M.Rg) (n : Int) (w : World) :
    Calls Try.prog 100 #[.agg #[.int .i64 r.lo, .int .i64 r.hi], .int .i64 n] w fun e w' => e = .returned (.bool (M.upTo r n)) ∧ Ev w w' := upTo_c r n w

theorem fv_eq (f : M.Fl) (s : Value) : fv f s = .agg #[.int .i64 f.rows, .int .i64 f.wds, .int .i64 f.lf.lo, .int .i64 f.lf.hi, s] := rfl
theorem tv_eq (t : M.Tl) : tv t = .agg #[.int .i64 t.wd, .int .i64 t.fr, .int .i64 t.to, .int .i64 t.ct.lo, .int .i64 t.ct.hi] := rfl

set_option maxHeartbeats 400000 in
theorem canSay_c (f : M.Fl) (A : Option Addr) (m c : Nat) (n : Int) (w : World) :
    Calls Try.prog 69 #[fv f (.slice A m c), .int .i64 n] w fun e w' => e = .returned (.bool (M.canSay f n)) ∧ Ev w w' := by
  rw [fv_eq]
  go_enter Try.func69, Try.ntmps69
  go_wp2_with (go_at_call 81; refine (hasWd_e f A m c _ _).mono ?_; rintro e w1 ⟨rfl, hb1⟩; obtain ⟨hc1, hf1⟩ := hb1.cells)
  all_goals (go_ret; refine ⟨ret_bool (by unfold M.canSay; simp [*]), ?_⟩)
  all_goals (repeat first | exact Ev.refl _ | refine Ev.alloc ?_ _ | refine Ev.trans ?_ (by assumption))

set_option maxHeartbeats 400000 in
theorem stretch_c (t : M.Tl) (w : World) :
    Calls Try.prog 106 #[tv t] w fun e w' => e = .returned (.agg #[.int .i64 t.wd, .int .i64 t.fr, .int .i64 t.to]) ∧ Ev w w' := by
  unfold tv
  go_enter Try.func106, Try.ntmps106
  go_wp2
  refine bodyPost_ret (v := .agg #[.int .i64 t.wd, .int .i64 t.fr, .int .i64 t.to]) (by simp [results, Try.results106, go_sem]) rfl ⟨rfl, ?_⟩
  all_goals (repeat first | exact Ev.refl _ | refine Ev.alloc ?_ _ | refine Ev.trans ?_ (by assumption))

set_option maxHeartbeats 400000 in
theorem whole_c (f : M.Fl) (A : Option Addr) (m c : Nat) (n : Int) (w : World) (h0 : 0 ≤ f.rows) (h1 : f.rows ≤ 7) :
    Calls Try.prog 105 #[fv f (.slice A m c), .int .i64 n] w fun e w' => e = .returned (.agg #[.int .i64 n, .int .i64 0, .int .i64 (f.rows - 1)]) ∧ Ev w w' := by
  rw [fv_eq]
  go_enter Try.func105, Try.ntmps105
  go_wp2
  refine bodyPost_ret (v := .agg #[.int .i64 n, .int .i64 0, .int .i64 (f.rows - 1)]) (by simp [results, Try.results105, go_sem]) rfl ⟨rfl, ?_⟩
  all_goals (repeat first | exact Ev.refl _ | refine Ev.alloc ?_ _ | refine Ev.trans ?_ (by assumption))

set_option maxHeartbeats 1000000 in
theorem validTally_c (f : M.Fl) (A : Option Addr) (m c : Nat) (t : M.Tl) (w : World) :
    Calls Try.prog 102 #[fv f (.slice A m c), tv t] w fun e w' => e = .returned (.bool (M.validTally f t)) ∧ Ev w w' := by
  rw [fv_eq, tv_eq]
  go_enter Try.func102, Try.ntmps102
  go_wp2_with (first | (go_at_call 81; refine (hasWd_e f A m c _ _).mono ?_; rintro e w1 ⟨rfl, hb1⟩; obtain ⟨hc1, hf1⟩ := hb1.cells) | (go_at_call 79; refine (hasRow_e f A m c _ _).mono ?_; rintro e w2 ⟨rfl, hb2⟩; replace hb1 := hb1.trans hb2; clear hb2; obtain ⟨hc2, hf2⟩ := hb1.cells) | (go_at_call 100; refine (upTo_e t.ct _ _).mono ?_; rintro e w3 ⟨rfl, hb3⟩; replace hb1 := hb1.trans hb3; clear hb3))
  all_goals (go_ret; refine ⟨ret_bool (by simp only [M.validTally]; simp only [*]; first | done | (simp; done) | (simp; omega)), ?_⟩)
  all_goals (repeat first | exact Ev.refl _ | refine Ev.alloc ?_ _ | refine Ev.trans ?_ (by assumption))

theorem heap_at (w : World) (o : Obj) {k : Nat} (h : k = w.heap.size) : (w.alloc o).heap[k]? = some o := by
  subst h; show (w.heap.push o)[w.heap.size]? = _; simp
theorem heap_old {w : World} {k : Nat} {x : Obj} (o : Obj) (h : w.heap[k]? = some x) : (w.alloc o).heap[k]? = some x :=
  (Below.heap_alloc w o k (Array.getElem?_eq_some_iff.1 h).1).trans h
theorem cell_in {w : World} {b : Nat} {cs : Array Value} {t : TypeId} (h : w.heap[b]? = some (.cells cs t (0, 0))) (j : Nat) : w.cell? ⟨b, j, none⟩ = cs[j]? := by
  simp [World.cell?, h]
theorem frozen_in {w : World} {b : Nat} {cs : Array Value} {t : TypeId} (h : w.heap[b]? = some (.cells cs t (0, 0))) (j : Nat) : w.frozen? ⟨b, j, none⟩ = false := by
  simp [World.frozen?, h]
theorem alloc1 (w : World) (a : Obj) : (w.alloc a).heap[w.heap.size]? = some a ∧ (w.alloc a).heap.size = w.heap.size + 1 := ⟨heap_at w a rfl, by simp⟩
theorem alloc2 (w : World) (a b : Obj) : ((w.alloc a).alloc b).heap[w.heap.size]? = some a ∧ ((w.alloc a).alloc b).heap[w.heap.size + 1]? = some b ∧ ((w.alloc a).alloc b).heap.size = w.heap.size + 2 :=
  ⟨heap_old b (alloc1 w a).1, heap_at _ b (by simp), by simp⟩
theorem alloc3 (w : World) (a b c : Obj) : (((w.alloc a).alloc b).alloc c).heap[w.heap.size]? = some a ∧ (((w.alloc a).alloc b).alloc c).heap[w.heap.size + 1]? = some b ∧ (((w.alloc a).alloc b).alloc c).heap[w.heap.size + 1 + 1]? = some c ∧ (((w.alloc a).alloc b).alloc c).heap.size = w.heap.size + 3 :=
  ⟨heap_old c (alloc2 w a b).1, heap_old c (alloc2 w a b).2.1, heap_at _ c (by simp), by simp⟩
theorem alloc4 (w : World) (a b c d : Obj) : ((((w.alloc a).alloc b).alloc c).alloc d).heap[w.heap.size]? = some a ∧ ((((w.alloc a).alloc b).alloc c).alloc d).heap[w.heap.size + 1]? = some b ∧ ((((w.alloc a).alloc b).alloc c).alloc d).heap[w.heap.size + 1 + 1]? = some c ∧ ((((w.alloc a).alloc b).alloc c).alloc d).heap[w.heap.size + 1 + 1 + 1]? = some d ∧ ((((w.alloc a).alloc b).alloc c).alloc d).heap.size = w.heap.size + 4 :=
  ⟨heap_old d (alloc3 w a b c).1, heap_old d (alloc3 w a b c).2.1, heap_old d (alloc3 w a b c).2.2.1, heap_at _ d (by simp), by simp⟩

theorem cells5 {W : World} {b : Nat} {t : TypeId} {v0 v1 v2 v3 v4 : Value} (h : W.heap[b]? = some (.cells #[v0, v1, v2, v3, v4] t (0, 0))) :
    W.cell? ⟨b, 0, none⟩ = some v0 ∧ W.cell? ⟨b, 1, none⟩ = some v1 ∧ W.cell? ⟨b, 2, none⟩ = some v2 ∧ W.cell? ⟨b, 3, none⟩ = some v3 ∧ W.cell? ⟨b, 4, none⟩ = some v4 :=
  ⟨cell_in h 0, cell_in h 1, cell_in h 2, cell_in h 3, cell_in h 4⟩
theorem cells7 {W : World} {b : Nat} {t : TypeId} {v0 v1 v2 v3 v4 v5 v6 : Value} (h : W.heap[b]? = some (.cells #[v0, v1, v2, v3, v4, v5, v6] t (0, 0))) :
    W.cell? ⟨b, 0, none⟩ = some v0 ∧ W.cell? ⟨b, 1, none⟩ = some v1 ∧ W.cell? ⟨b, 2, none⟩ = some v2 ∧ W.cell? ⟨b, 3, none⟩ = some v3 ∧ W.cell? ⟨b, 4, none⟩ = some v4 ∧ W.cell? ⟨b, 5, none⟩ = some v5 ∧ W.cell? ⟨b, 6, none⟩ = some v6 :=
  ⟨cell_in h 0, cell_in h 1, cell_in h 2, cell_in h 3, cell_in h 4, cell_in h 5, cell_in h 6⟩
theorem Ev.heap {a b : World} (h : Ev a b) {k : Nat} {o : Obj} (hk : a.heap[k]? = some o) : b.heap[k]? = some o :=
  (Below.block h k (Array.getElem?_eq_some_iff.1 hk).1).trans hk
theorem grown_heap {a b : World} {r : Nat} (h : a.grownBy b (some r)) {k : Nat} {o : Obj} (hk : a.heap[k]? = some o) (hne : k ≠ r) : b.heap[k]? = some o :=
  (h.block k (Array.getElem?_eq_some_iff.1 hk).1 (by simpa using hne)).trans hk
theorem heap_lt {w : World} {k : Nat} {o : Obj} (hk : w.heap[k]? = some o) : k < w.heap.size := (Array.getElem?_eq_some_iff.1 hk).1
theorem set_heap {w : World} {k b j : Nat} {v : Value} {o : Obj} (hk : w.heap[k]? = some o) (hne : k ≠ b) : (w.setCell ⟨b, j, none⟩ v).heap[k]? = some o :=
  (Below.heap_setCell w ⟨b, j, none⟩ v k hne).trans hk
theorem set_heap_same {w : World} {b j : Nat} {v : Value} {cs : Array Value} {t : TypeId} (hk : w.heap[b]? = some (.cells cs t (0, 0))) : (w.setCell ⟨b, j, none⟩ v).heap[b]? = some (.cells (cs.setIfInBounds j v) t (0, 0)) := by
  simp [World.setCell, Array.getElem?_modify, hk]

end Go.Proofs.Ytcecmphdmpeibaa

namespace Go.Proofs.Ytcecmphdmpeibaa
theorem hid {p : Prop} (h : p) : RowKit.Hid p := h
open Go.RowKit

/-- The slice value '.slice A n c' reads, in w, as the list xs of things of sz cells each; it lies below block B. -/
structure Sl {α : Type} (enc : α → List Value) (sz : Nat) (w : World) (B : Nat) (A : Option Addr) (n c : Nat) (xs : List α) : Prop where
  len : xs.length = n
  cap : n ≤ c
  small : n ≤ 1099511627776
  cells : 0 < n → ∃ b off, A = some ⟨b, off, none⟩ ∧ b < B ∧ ∀ (k : Nat) (x : α), xs[k]? = some x → ∀ (j : Nat) (v : Value), (enc x)[j]? = some v → w.cell? ⟨b, off + k * sz + j, none⟩ = some v

theorem Sl.keep {α : Type} {enc : α → List Value} {sz : Nat} {w w' : World} {B B' : Nat} {A : Option Addr} {n c : Nat} {xs : List α}
    (h : Sl enc sz w B A n c xs) (hb : Below B w w') (hB : B ≤ B') : Sl enc sz w' B' A n c xs :=
  ⟨h.len, h.cap, h.small, fun hn => by
    obtain ⟨b, off, hA, hlt, hc⟩ := h.cells hn
    exact ⟨b, off, hA, by omega, fun k x hk j v hj => (hb.cell (p := ⟨b, _, none⟩) hlt).trans (hc k x hk j v hj)⟩⟩
theorem Sl.ev {α : Type} {enc : α → List Value} {sz : Nat} {w w' : World} {A : Option Addr} {n c : Nat} {xs : List α}
    (h : Sl enc sz w w.heap.size A n c xs) (hb : Ev w w') : Sl enc sz w' w'.heap.size A n c xs := h.keep hb hb.size

def tcs (t : M.Tl) : List Value := [.int .i64 t.wd, .int .i64 t.fr, .int .i64 t.to, .int .i64 t.ct.lo, .int .i64 t.ct.hi]

theorem drop_some {α : Type} {xs : List α} {k : Nat} {x : α} (h : xs[k]? = some x) : xs.drop k = x :: xs.drop (k + 1) := by
  obtain ⟨hlt, rfl⟩ := List.getElem?_eq_some_iff.1 h
  exact List.drop_eq_getElem_cons hlt

/-- The k-th thing of a slice, and where it lies in a later world. -/
theorem Sl.at_ {α : Type} {enc : α → List Value} {sz : Nat} {w wr : World} {B : Nat} {A : Option Addr} {n c : Nat} {xs : List α} (h : Sl enc sz w B A n c xs) (hb : Below B w wr) {k : Nat} (hk : k < n) :
    ∃ b off x, A = some ⟨b, off, none⟩ ∧ b < B ∧ xs[k]? = some x ∧ xs.drop k = x :: xs.drop (k + 1) ∧ ∀ (j : Nat) (v : Value), (enc x)[j]? = some v → wr.cell? ⟨b, off + k * sz + j, none⟩ = some v := by
  obtain ⟨b, off, hA, hlt, hc⟩ := h.cells (by omega)
  have hx : xs[k]? = some (xs[k]'(by have := h.len; omega)) := List.getElem?_eq_getElem _
  exact ⟨b, off, _, hA, hlt, hx, drop_some hx, fun j v hj => (hb.cell (p := ⟨b, _, none⟩) hlt).trans (hc k _ hx j v hj)⟩

theorem Sl.done {α : Type} {enc : α → List Value} {sz : Nat} {w : World} {B : Nat} {A : Option Addr} {n c : Nat} {xs : List α} (h : Sl enc sz w B A n c xs) {k : Nat} (hk : ¬ k < n) : xs.drop k = [] :=
  List.drop_eq_nil_of_le (by have := h.len; omega)

set_option maxRecDepth 100000 in
set_option maxHeartbeats 1000000 in
theorem allTally_c (f : M.Fl) (A A' : Option Addr) (n c m c' : Nat) (ts : List M.Tl) (w : World) (hs : Sl tcs 5 w w.heap.size A n c ts) :
    Calls Try.prog 101 #[.slice A n c, .func (.func 102) #[fv f (.slice A' m c')] #[]] w fun e w' => e = .returned (.bool (ts.all (M.validTally f))) ∧ Ev w w' := by
  have hsm := hs.small
  go_enter Try.func101, Try.ntmps101
  go_wp2
  go_loopw [9] (fun i wr => ∃ k : Nat, i = .int .i64 k ∧ k ≤ n ∧ Ev w wr ∧ Hid ((ts.drop k).all (M.validTally f) = ts.all (M.validTally f))) (fun i _ => n - (intOf i).toNat)
  case atStart => exact ⟨0, rfl, by omega, Ev.refl _, hid rfl⟩
  case round =>
    obtain ⟨k, rfl, hk, hB, hall⟩ := hrel
    by_cases hlt : k < n
    · obtain ⟨b, off, x, rfl, hb, hx, hd, hcc⟩ := hs.at_ hB hlt
      have e0 := hcc 0 _ rfl
      have e1 := hcc 1 _ rfl
      have e2 := hcc 2 _ rfl
      have e3 := hcc 3 _ rfl
      have e4 := hcc 4 _ rfl
      clear hcc
      simp only [Nat.add_zero] at e0
      have H := hid hd
      clear hd hx
      by_cases hv : M.validTally f x = true
      · go_wp2_with (go_at_call 102; refine (validTally_c f A' m c' x _).mono ?_; rintro e w1 ⟨rfl, hb1⟩)
        refine ⟨⟨k + 1, by go_num, by omega, ?_, ?_⟩, by simp [intOf]; omega⟩
        · (repeat first | exact Ev.refl _ | assumption | refine Ev.alloc ?_ _ | refine Ev.trans ?_ (by assumption))
        · exact hid (by rw [← hall.out, H.out, List.all_cons, hv, Bool.true_and])
      · have hv' : M.validTally f x = false := by simpa using hv
        go_wp2_with (go_at_call 102; refine (validTally_c f A' m c' x _).mono ?_; rintro e w1 ⟨rfl, hb1⟩)
        go_ret
        refine ⟨ret_bool (by rw [← hall.out, H.out, List.all_cons, hv', Bool.false_and]), ?_⟩
        (repeat first | exact Ev.refl _ | assumption | refine Ev.alloc ?_ _ | refine Ev.trans ?_ (by assumption))
    · have hd := hs.done hlt
      have H := hid hd
      clear hd
      go_wp2
      go_ret
      exact ⟨ret_bool (by rw [← hall.out, H.out]; rfl), hB⟩

end Go.Proofs.Ytcecmphdmpeibaa

namespace Go.Proofs.Ytcecmphdmpeibaa
open Go.RowKit

set_option maxRecDepth 100000 in
set_option maxHeartbeats 1000000 in
theorem valid_c (f : M.Fl) (A : Option Addr) (n c : Nat) (w : World) (hs : Sl tcs 5 w w.heap.size A n c f.ts) :
    Calls Try.prog 66 #[fv f (.slice A n c)] w fun e w' => e = .returned (.bool (M.valid f)) ∧ Ev w w' := by
  rw [fv_eq]
  go_enter Try.func66, Try.ntmps66
  go_wp2_with (first | (go_at_call 100; refine (upTo_e f.lf _ _).mono ?_; rintro e w1 ⟨rfl, hb1⟩; obtain ⟨hc1, hf1⟩ := hb1.cells) | (go_at_call 101; refine (allTally_c f A A n c n c f.ts _ (hs.ev ((Ev.alloc (Ev.refl _) _).trans hb1))).mono ?_; rintro e w2 ⟨rfl, hb2⟩; replace hb1 := hb1.trans hb2; clear hb2))
  all_goals (go_ret; refine ⟨ret_bool (by unfold M.valid; first | (simp [*]; done) | (simp; omega)), ?_⟩)
  all_goals (repeat first | exact Ev.refl _ | refine Ev.alloc ?_ _ | refine Ev.trans ?_ (by assumption))

theorem ret_int {k : IntKind} {a b : Int} (h : a = b) : Ending.returned (.int k a) = .returned (.int k b) := by rw [h]

theorem pow_le6 (b k : Nat) (hb : 1 ≤ b) (h4 : b ≤ 4) (hk : k ≤ 6) : b ^ k ≤ 4096 :=
  Nat.le_trans (Nat.pow_le_pow_right hb hk) (Nat.le_trans (Nat.pow_le_pow_left h4 6) (by decide))

theorem mul_bd (p d : Nat) (hp : p ≤ 4096) (hd : d ≤ 3) : 0 ≤ (p : Int) * ((d : Int) + 1) ∧ (p : Int) * ((d : Int) + 1) ≤ 16384 := by
  have h : p * (d + 1) ≤ 4096 * 4 := Nat.mul_le_mul hp (by omega)
  have e : (p : Int) * ((d : Int) + 1) = ((p * (d + 1) : Nat) : Int) := by simp
  rw [e]; omega

set_option maxRecDepth 100000 in
set_option maxHeartbeats 1000000 in
theorem power_k (r d : Nat) (lf : M.Rg) (A : Option Addr) (n c : Nat) (w : World) (hr : r ≤ 7) (hd : d ≤ 3) :
    Calls Try.prog 67 #[.agg #[.int .i64 r, .int .i64 d, .int .i64 lf.lo, .int .i64 lf.hi, .slice A n c]] w fun e w' => e = .returned (.int .i64 (((d + 1) ^ r : Nat) : Int)) ∧ Ev w w' := by
  go_enter Try.func67, Try.ntmps67
  go_wp2
  go_loop [3, 6] (fun m i => ∃ k p : Nat, i = .int .i64 k ∧ k ≤ r ∧ m = .int .i64 p ∧ Hid (p = (d + 1) ^ k)) (fun _ i => r - (intOf i).toNat)
  case atStart => exact ⟨0, 1, rfl, by omega, rfl, hid rfl⟩
  case round =>
    obtain ⟨k, p, rfl, hk, rfl, hp⟩ := hrel
    by_cases hlt : k < r
    · have hle : p ≤ 4096 := by rw [hp.out]; exact pow_le6 _ _ (by omega) (by omega) (by omega)
      obtain ⟨b1, b2⟩ := mul_bd p d hle hd
      go_wp2
      go_round
      case rel => exact ⟨k + 1, p * (d + 1), by go_num, by omega, by congr 1, hid (by rw [hp.out, Nat.pow_succ])⟩
      case measure => simp [intOf]; omega
    · go_wp2
      go_ret
      obtain rfl : k = r := by omega
      exact ⟨ret_int (by rw [hp.out]; simp), (Ev.alloc (Ev.refl _) _)⟩

theorem power_c (f : M.Fl) (A : Option Addr) (n c : Nat) (w : World) (h0 : 0 ≤ f.rows) (h1 : f.rows ≤ 7) (h2 : 0 ≤ f.wds) (h3 : f.wds ≤ 3) :
    Calls Try.prog 67 #[fv f (.slice A n c)] w fun e w' => e = .returned (.int .i64 (M.power f)) ∧ Ev w w' := by
  obtain ⟨r, hr⟩ := Int.eq_ofNat_of_zero_le h0
  obtain ⟨d, hd⟩ := Int.eq_ofNat_of_zero_le h2
  have := power_k r d f.lf A n c w (by omega) (by omega)
  unfold fv M.power
  rw [hr, hd]
  simpa using this

theorem check_vals (f : M.Fl) : M.check f = 0 ∨ M.check f = 1 ∨ M.check f = 3 := by
  unfold M.check; split <;> (try split) <;> (try split) <;> simp

theorem valid_bd {f : M.Fl} (h : M.valid f = true) : 1 ≤ f.rows ∧ 1 ≤ f.wds := by
  simp [M.valid] at h; omega

set_option maxRecDepth 100000 in
set_option maxHeartbeats 1000000 in
theorem check_c (f : M.Fl) (A : Option Addr) (n c : Nat) (w : World) (hs : Sl tcs 5 w w.heap.size A n c f.ts) :
    Calls Try.prog 23 #[fv f (.slice A n c)] w fun e w' => e = .returned (.int .i64 (M.check f)) ∧ Ev w w' := by
  have hl := hs.len
  have hsm := hs.small
  have HL := hid hl
  clear hl
  rw [fv_eq]
  by_cases hv : M.valid f = true
  · obtain ⟨v1, v2⟩ := valid_bd hv
    go_enter Try.func23, Try.ntmps23
    go_wp2_with (first | (go_at_call 66; refine (valid_c f A n c _ (hs.ev (Ev.alloc (Ev.refl _) _))).mono ?_; rintro e w1 ⟨rfl, hb1⟩; obtain ⟨hc1, hf1⟩ := hb1.cells) | (go_at_call 67; refine (power_c f A n c _ (by omega) (by omega) (by omega) (by omega)).mono ?_; rintro e w2 ⟨rfl, hb2⟩))
    all_goals (go_ret; refine ⟨ret_int (by unfold M.check; rw [HL.out]; first | (rw [if_pos (by omega)]; done) | (rw [if_neg (by omega), if_neg (by simp [hv])]; first | (rw [if_pos (by omega)]; done) | (rw [if_neg (by omega)]; done))), ?_⟩)
    all_goals (repeat first | exact Ev.refl _ | refine Ev.alloc ?_ _ | refine Ev.trans ?_ (by assumption))
  · have hv' : M.valid f = false := by simpa using hv
    go_enter Try.func23, Try.ntmps23
    go_wp2_with (go_at_call 66; refine (valid_c f A n c _ (hs.ev (Ev.alloc (Ev.refl _) _))).mono ?_; rintro e w1 ⟨rfl, hb1⟩; obtain ⟨hc1, hf1⟩ := hb1.cells)
    all_goals (go_ret; refine ⟨ret_int (by unfold M.check; rw [HL.out]; first | (rw [if_pos (by omega)]; done) | (rw [if_neg (by omega), if_pos hv']; done)), ?_⟩)
    all_goals (repeat first | exact Ev.refl _ | refine Ev.alloc ?_ _ | refine Ev.trans ?_ (by assumption))

end Go.Proofs.Ytcecmphdmpeibaa

namespace Go.Proofs.Ytcecmphdmpeibaa
open Go.RowKit

set_option maxRecDepth 100000 in
set_option maxHeartbeats 1000000 in
theorem blank_c (w : World) :
    Calls Try.prog 70 #[] w fun e w' => e = .returned (.agg #[.int .i64 (-2), .int .i64 (-2), .int .i64 (-2), .int .i64 (-2), .int .i64 (-2), .int .i64 (-2), .int .i64 (-2)]) ∧ Ev w w' := by
  go_enter Try.func70, Try.ntmps70
  go_wp2
  refine wp_loop_rounds 8 ?_
  iterate 8 (rw [rounds_succ]; go_wp2)
  refine bodyPost_ret (v := .agg #[.int .i64 (-2), .int .i64 (-2), .int .i64 (-2), .int .i64 (-2), .int .i64 (-2), .int .i64 (-2), .int .i64 (-2)]) (by simp [results, Try.results70, go_sem]) rfl ⟨rfl, ?_⟩
  all_goals (repeat first | exact Ev.refl _ | refine Ev.alloc ?_ _ | refine Ev.trans ?_ (by assumption))

/-- A sheet: seven numbers. -/
def sv (l : List Int) : Value := .agg (l.map (Value.int .i64)).toArray

theorem slice7 (b fr to : Nat) (h1 : fr ≤ to) (h2 : to ≤ 6) (w : World) :
    (Instr.sliceAt 101 (.pointer (some ⟨b, 0, none⟩)) (some (.int .i64 fr)) (some (.int .i64 ((to : Int) + 1))) none).run Try.prog w = .ok (.slice (some ⟨b, fr, none⟩) (to + 1 - fr) (7 - fr)) w := by
  have ha : Try.prog.arrayLen 101 = 7 := by kernel_rfl
  have he : Try.prog.elem 101 = 3 := by kernel_rfl
  rw [run_sliceAt_array_lh w 101 ⟨b, 0, none⟩ (by rw [ha, he]; exact Try.underlying101) .i64 .i64 fr ((to : Int) + 1) (by omega) (by omega) (by rw [ha]; omega), he, Try.sizeOf3]
  have e1 : ((to : Int) + 1).toNat = to + 1 := by omega
  simp only [Result.andThen_ok, slicedAt, ha, Int.toNat_natCast, e1]
  rw [if_neg (by omega)]
  simp [Addr.add]
  intro h; omega

theorem list7 {l : List Int} (h : l.length = 7) : ∃ a0 a1 a2 a3 a4 a5 a6, l = [a0, a1, a2, a3, a4, a5, a6] := by
  match l, h with
  | [a0, a1, a2, a3, a4, a5, a6], _ => exact ⟨a0, a1, a2, a3, a4, a5, a6, rfl⟩

set_option maxRecDepth 100000 in
set_option maxHeartbeats 1000000 in
theorem count_n (l : List Int) (hl : l.length = 7) (x : Int) (fr to : Nat) (h1 : fr ≤ to) (h2 : to ≤ 6) (w : World) :
    Calls Try.prog 104 #[sv l, .agg #[.int .i64 x, .int .i64 fr, .int .i64 to]] w fun e w' => e = .returned (.int .i64 (M.count l x fr to)) ∧ Ev w w' := by
  have hsl := fun b wx => slice7 b fr to h1 h2 wx
  have hcell : ∀ (k : Nat) (h : k < 7) (W : World), (∀ (k : Nat) (_ : k < 7), W.cell? ⟨w.heap.size, k, none⟩ = (l[k]?).map (Value.int .i64)) → ∃ y, W.cell? ⟨w.heap.size, k, none⟩ = some (.int .i64 y) ∧ l[k]? = some y := by
    intro k h W hW
    have : l[k]? = some (l[k]'(by omega)) := List.getElem?_eq_getElem _
    exact ⟨_, by rw [hW k h, this]; rfl, this⟩
  have hw : ∀ o : Obj, ∀ (k : Nat) (_ : k < 7), ((w.alloc (.cells (l.map (Value.int .i64)).toArray 101)).alloc o).cell? ⟨w.heap.size, k, none⟩ = (l[k]?).map (Value.int .i64) := by
    intro o k hk
    simp
  obtain ⟨a0, a1, a2, a3, a4, a5, a6, he⟩ := list7 hl
  have HE := hid he
  have hs : sv l = .agg #[.int .i64 a0, .int .i64 a1, .int .i64 a2, .int .i64 a3, .int .i64 a4, .int .i64 a5, .int .i64 a6] := by rw [he]; rfl
  rw [hs]
  rw [he] at hw
  simp only [List.map_cons, List.map_nil] at hw
  have HW := hid hw
  clear hw he hs
  have HC := hid hcell
  clear hcell
  go_enter Try.func104, Try.ntmps104
  go_wp2
  generalize hW0 : World.alloc (World.alloc w _) _ = W0
  have hE : Ev w W0 := by rw [← hW0]; exact (Ev.alloc (Ev.alloc (Ev.refl _) _) _)
  have hc0 : ∀ (k : Nat) (_ : k < 7), W0.cell? ⟨w.heap.size, k, none⟩ = (l[k]?).map (Value.int .i64) := by rw [← hW0, HE.out]; exact HW.out _
  have hx0 : W0.cell? ⟨w.heap.size + 1, 0, none⟩ = some (.int .i64 x) := by rw [← hW0]; simp
  have HC0 := hid hc0
  clear hc0 hW0
  go_loop [5, 15] (fun m i => ∃ k : Nat, ∃ p : Int, i = .int .i64 k ∧ k ≤ to + 1 - fr ∧ m = .int .i64 p ∧ 0 ≤ p ∧ p ≤ k ∧ Hid (p + M.cnt x (((l.drop fr).take (to + 1 - fr)).drop k) = M.count l x fr to)) (fun _ i => to + 1 - fr - (intOf i).toNat)
  case atStart => exact ⟨0, 0, rfl, by omega, rfl, by omega, by omega, hid (by simp [M.count])⟩
  case round =>
    obtain ⟨k, p, rfl, hk, rfl, hp0, hp1, hp⟩ := hrel
    by_cases hlt : k < to + 1 - fr
    · obtain ⟨y, hy, hly⟩ := HC.out (fr + k) (by omega) W0 HC0.out
      have hd : ((l.drop fr).take (to + 1 - fr)).drop k = y :: ((l.drop fr).take (to + 1 - fr)).drop (k + 1) := drop_some (by rw [List.getElem?_take, if_pos hlt, List.getElem?_drop]; exact hly)
      have HD := hid hd
      clear hd hly
      by_cases hyx : y = x
      · have hb : (y == x) = true := by simpa using hyx
        have HY := hid hyx
        clear hyx
        go_wp2
        go_round
        case rel => exact ⟨k + 1, p + 1, by go_num, by omega, rfl, by omega, by omega, hid (by rw [← hp.out, HD.out]; simp only [M.cnt]; rw [if_pos HY.out]; omega)⟩
        case measure => simp [intOf]; omega
      · have hb : (y == x) = false := by simpa using hyx
        have HY := hid hyx
        clear hyx
        go_wp2
        go_round
        case rel => exact ⟨k + 1, p, by go_num, by omega, rfl, by omega, by omega, hid (by rw [← hp.out, HD.out]; simp only [M.cnt]; rw [if_neg HY.out]; omega)⟩
        case measure => simp [intOf]; omega
    · have hd : ((l.drop fr).take (to + 1 - fr)).drop k = [] := List.drop_eq_nil_of_le (by rw [List.length_take]; omega)
      have HD := hid hd
      clear hd
      go_wp2
      go_ret
      exact ⟨ret_int (by rw [← hp.out, HD.out]; simp [M.cnt]), hE⟩

theorem count_c (l : List Int) (hl : l.length = 7) (x fr to : Int) (h0 : 0 ≤ fr) (h1 : fr ≤ to) (h2 : to ≤ 6) (w : World) :
    Calls Try.prog 104 #[sv l, .agg #[.int .i64 x, .int .i64 fr, .int .i64 to]] w fun e w' => e = .returned (.int .i64 (M.count l x fr to)) ∧ Ev w w' := by
  obtain ⟨a, rfl⟩ := Int.eq_ofNat_of_zero_le h0
  obtain ⟨b, rfl⟩ := Int.eq_ofNat_of_zero_le (show 0 ≤ to by omega)
  exact count_n l hl x a b (by omega) (by omega) w

end Go.Proofs.Ytcecmphdmpeibaa

namespace Go.Proofs.Ytcecmphdmpeibaa
open Go.RowKit

set_option maxRecDepth 100000 in
set_option maxHeartbeats 1000000 in
theorem allows_c (f : M.Fl) (A : Option Addr) (n c : Nat) (l : List Int) (hl : l.length = 7) (h1 : 1 ≤ f.rows) (h7 : f.rows ≤ 7) (w : World) :
    Calls Try.prog 71 #[fv f (.slice A n c), sv l] w fun e w' => e = .returned (.bool (M.allows f l)) ∧ Ev w w' := by
  obtain ⟨a0, a1, a2, a3, a4, a5, a6, he⟩ := list7 hl
  have hs : sv l = .agg #[.int .i64 a0, .int .i64 a1, .int .i64 a2, .int .i64 a3, .int .i64 a4, .int .i64 a5, .int .i64 a6] := by rw [he]; rfl
  have HS := hid hs
  rw [fv_eq, hs]
  clear hs he
  have hwh : ∀ W, Calls Try.prog 105 #[.agg #[.int .i64 f.rows, .int .i64 f.wds, .int .i64 f.lf.lo, .int .i64 f.lf.hi, .slice A n c], .int .i64 (-1)] W fun e w' => e = .returned (.agg #[.int .i64 (-1), .int .i64 0, .int .i64 (f.rows - 1)]) ∧ Ev W w' := fun W => whole_c f A n c (-1) W (by omega) h7
  have hct : ∀ W, Calls Try.prog 104 #[sv l, .agg #[.int .i64 (-1), .int .i64 0, .int .i64 (f.rows - 1)]] W fun e w' => e = .returned (.int .i64 (M.count l (-1) 0 (f.rows - 1))) ∧ Ev W w' := fun W => count_c l hl (-1) 0 (f.rows - 1) (by omega) (by omega) (by omega) W
  have hho := fun W => holds_e f.lf (M.count l (-1) 0 (f.rows - 1)) W
  rw [HS.out] at hct
  have H1 := hid hwh
  have H2 := hid hct
  have H3 := hid hho
  clear hwh hct hho
  go_enter Try.func71, Try.ntmps71
  go_wp2
  generalize hW0 : World.alloc (World.alloc w _) _ = W0
  have hE : Ev w W0 := by rw [← hW0]; exact (Ev.alloc (Ev.alloc (Ev.refl _) _) _)
  have hc1 : W0.cell? ⟨w.heap.size, 0, none⟩ = some (.int .i64 f.rows) := by rw [← hW0]; simp
  have hc2 : W0.cell? ⟨w.heap.size, 1, none⟩ = some (.int .i64 f.wds) := by rw [← hW0]; simp
  have hc3 : W0.cell? ⟨w.heap.size, 2, none⟩ = some (.int .i64 f.lf.lo) := by rw [← hW0]; simp
  have hc4 : W0.cell? ⟨w.heap.size, 3, none⟩ = some (.int .i64 f.lf.hi) := by rw [← hW0]; simp
  have hc5 : W0.cell? ⟨w.heap.size, 4, none⟩ = some (.slice A n c) := by rw [← hW0]; simp
  have hd0 : W0.cell? ⟨w.heap.size + 1, 0, none⟩ = some (.int .i64 a0) := by rw [← hW0]; simp
  have hd1 : W0.cell? ⟨w.heap.size + 1, 1, none⟩ = some (.int .i64 a1) := by rw [← hW0]; simp
  have hd2 : W0.cell? ⟨w.heap.size + 1, 2, none⟩ = some (.int .i64 a2) := by rw [← hW0]; simp
  have hd3 : W0.cell? ⟨w.heap.size + 1, 3, none⟩ = some (.int .i64 a3) := by rw [← hW0]; simp
  have hd4 : W0.cell? ⟨w.heap.size + 1, 4, none⟩ = some (.int .i64 a4) := by rw [← hW0]; simp
  have hd5 : W0.cell? ⟨w.heap.size + 1, 5, none⟩ = some (.int .i64 a5) := by rw [← hW0]; simp
  have hd6 : W0.cell? ⟨w.heap.size + 1, 6, none⟩ = some (.int .i64 a6) := by rw [← hW0]; simp
  have hz : W0.heap.size = w.heap.size + 2 := by rw [← hW0]; simp
  have HSE : Hid (∀ w', Ev W0 w' → Ev W0 w' ∧ (∀ b o, b < w.heap.size + 2 → w'.cell? ⟨b, o, none⟩ = W0.cell? ⟨b, o, none⟩)) := hid (fun w' h => ⟨h, fun b o hb => h.cells.1 b o (by omega)⟩)
  clear hz hW0
  go_region_held3 (fun w' => Ev W0 w' ∧ (∀ b o, b < w.heap.size + 2 → w'.cell? ⟨b, o, none⟩ = W0.cell? ⟨b, o, none⟩)) (exact HSE.out _ (by repeat (first | exact Ev.refl W0 | (go_split_ands; assumption) | refine Ev.drew ?_ | refine Ev.alloc ?_ _ | refine Ev.trans ?_ (by assumption)))) (first | (go_at_call 105; with_reducible refine (H1.out _).mono ?_; rintro e w1 ⟨rfl, hb1⟩) | (go_at_call 104; with_reducible refine (H2.out _).mono ?_; rintro e w1 ⟨rfl, hb2⟩) | (go_at_call 103; with_reducible refine (H3.out _).mono ?_; rintro e w1 ⟨rfl, hb3⟩))
  go_wp2
  go_ret
  refine ⟨rfl, ?_⟩
  go_split_ands
  exact hE.trans (by assumption)

end Go.Proofs.Ytcecmphdmpeibaa

namespace Go.Proofs.Ytcecmphdmpeibaa
open Go.RowKit
open Go.WideMaps (KeyLaw)

theorem laidOut : laidOutB Try.prog = true := by kernel_rfl
theorem row143 : (143 : TypeId) < Try.prog.types.size := by rw [show Try.prog.types.size = 186 from Try.types_size]; decide
theorem row101 : (101 : TypeId) < Try.prog.types.size := by rw [show Try.prog.types.size = 186 from Try.types_size]; decide
theorem wide143 : (match Try.prog.underlying 143 with | some (.array _ _) | some (.struct _) => true | _ => false) = true := by rw [Try.underlying143]
theorem wide101 : (match Try.prog.underlying 101 with | some (.array _ _) | some (.struct _) => true | _ => false) = true := by rw [Try.underlying101]
set_option maxRecDepth 100000 in
theorem law143 : KeyLaw Try.prog 143 := deep_law_laid laidOut (m := 2) (by omega) row143 (by kernel_rfl) wide143
set_option maxRecDepth 100000 in
theorem law101 : KeyLaw Try.prog 101 := deep_law_laid laidOut (m := 2) (by omega) row101 (by kernel_rfl) wide101

/-- Block b is a map with keys of type kt that holds just what g says. -/
def MapIs (P : Program) (kt : TypeId) (w : World) (b : Nat) (g : Value → Option Value) : Prop :=
  ∃ es clock, w.heap[b]? = some (.map es clock) ∧ (∀ e ∈ es.toList, (∃ l, keyOf P kt e.key = some l) ∧ g e.key = some e.val) ∧
    (∀ k v, g k = some v → ∃ e ∈ es.toList, e.key = k) ∧ es.toList.Pairwise (fun x y => x.key ≠ y.key)

theorem MapIs.keep {P : Program} {kt : TypeId} {w w' : World} {b B : Nat} {g : Value → Option Value} (h : MapIs P kt w b g) (hb : Below B w w') (hlt : b < B) : MapIs P kt w' b g := by
  obtain ⟨es, clock, hh, rest⟩ := h
  exact ⟨es, clock, (hb.block b hlt).trans hh, rest⟩

theorem MapIs.lt {P : Program} {kt : TypeId} {w : World} {b : Nat} {g : Value → Option Value} (h : MapIs P kt w b g) : b < w.heap.size := by
  obtain ⟨es, clock, hh, _⟩ := h
  exact (Array.getElem?_eq_some_iff.1 hh).1

theorem MapIs.new (P : Program) (kt : TypeId) (w : World) : MapIs P kt (w.alloc (.map #[] 0)) w.heap.size (fun _ => none) :=
  ⟨#[], 0, by show (w.heap.push _)[w.heap.size]? = _; simp, by simp, by simp, by simp⟩

section
variable {P : Program} {t kt et : TypeId} {w : World} {b : Nat} {g : Value → Option Value}

theorem MapIs.lookup (h : MapIs P kt w b g) (K : KeyLaw P kt) (ht : P.underlying t = some (.map kt et)) {z : Value} (hz : ∀ w, (zeroValue et).run P w = .ok z w) {x : Value} {l : Lit} (hx : keyOf P kt x = some l) :
    (Instr.lookup t (.map (some b)) x true).run P w = .ok (.tuple #[(g x).getD z, .bool (g x).isSome]) w := by
  obtain ⟨es, clock, hb, h1, h2, h3⟩ := h
  rcases K.find w hx es.toList (fun e he => (h1 e he).1) with ⟨f1, f2⟩ | ⟨j, e0, f1, f2, f3⟩
  · have hn : g x = none := by
      cases hg : g x with
      | none => rfl
      | some v => obtain ⟨e, he, hk⟩ := h2 x v hg; exact absurd hk (f2 e he)
    simp [Instr.lookup, run_underlying ht, MapKept.run_getObj_map hb, K.check w _ hx, f1, hz w, hn, Result.andThen]
  · have hs : g x = some e0.val := by rw [← f3]; exact (h1 e0 (List.mem_of_getElem? f2)).2
    simp [Instr.lookup, run_underlying ht, MapKept.run_getObj_map hb, K.check w _ hx, f1, hs, Result.andThen]

open Classical in
theorem MapIs.update (h : MapIs P kt w b g) (K : KeyLaw P kt) (ht : P.underlying t = some (.map kt et)) {x v : Value} {l : Lit} (hx : keyOf P kt x = some l) :
    ∃ w', (Instr.mapUpdate t (.map (some b)) x v).run P w = .ok () w' ∧ MapIs P kt w' b (fun k => if k = x then some v else g k) ∧ w.grownBy w' (some b) := by
  obtain ⟨es, clock, hb, h1, h2, h3⟩ := h
  have hlt : b < w.heap.size := (Array.getElem?_eq_some_iff.1 hb).1
  rcases K.find w hx es.toList (fun e he => (h1 e he).1) with ⟨f1, f2⟩ | ⟨j, e0, f1, f2, f3⟩
  · refine ⟨{ w with heap := w.heap.setIfInBounds b (.map (es.push { key := x, val := v, born := clock }) (clock + 1)) }, ?_, ?_, ?_⟩
    · simp [Instr.mapUpdate, run_underlying ht, MapKept.run_getObj_map hb, K.check w _ hx, f1, Result.andThen, setObj, Sem.run, hb]
    · refine ⟨es.push { key := x, val := v, born := clock }, clock + 1, by simp [hlt], ?_, ?_, ?_⟩
      · intro e he
        rw [Array.toList_push] at he
        rcases List.mem_append.1 he with he | he
        · exact ⟨(h1 e he).1, by simp only []; rw [if_neg (f2 e he)]; exact (h1 e he).2⟩
        · obtain rfl : e = { key := x, val := v, born := clock } := by simpa using he
          exact ⟨⟨l, hx⟩, by simp⟩
      · intro k u hk
        by_cases hkx : k = x
        · exact ⟨{ key := x, val := v, born := clock }, by simp, hkx.symm⟩
        · simp only [] at hk
          rw [if_neg hkx] at hk
          obtain ⟨e, he, hek⟩ := h2 k u hk
          exact ⟨e, by simp [he], hek⟩
      · simp only [Array.toList_push]
        refine List.pairwise_append.2 ⟨h3, by simp, ?_⟩
        intro a ha c hc
        obtain rfl : c = { key := x, val := v, born := clock } := by simpa using hc
        exact f2 a ha
    · refine ⟨rfl, rfl, rfl, by simp, fun k hk hne => ?_⟩
      simp only []
      rw [Array.getElem?_setIfInBounds_ne (by intro e; exact hne (by rw [e]))]
  · obtain ⟨hj, hje⟩ := List.getElem?_eq_some_iff.1 f2
    have hja : es[j]? = some e0 := by rw [← Array.getElem?_toList]; exact f2
    have hstay : (Instr.keyThatStays e0.key x).run P w = .ok x w := by rw [f3]; exact K.stays w hx
    refine ⟨{ w with heap := w.heap.setIfInBounds b (.map (es.modify j fun e => { e with key := x, val := v }) clock) }, ?_, ?_, ?_⟩
    · simp [Instr.mapUpdate, run_underlying ht, MapKept.run_getObj_map hb, K.check w _ hx, f1, Result.andThen, setObj, Sem.run, hb, hja, hstay]
    · have hmem : ∀ e, e ∈ (es.modify j fun e => { e with key := x, val := v }).toList → e.key = x ∧ e.val = v ∨ e ∈ es.toList ∧ e.key ≠ x := by
        intro e he
        rw [Array.toList_modify] at he
        obtain ⟨i, hi⟩ := List.mem_iff_getElem?.1 he
        rw [List.getElem?_modify] at hi
        by_cases hij : j = i
        · subst hij
          rw [f2] at hi
          simp at hi
          left
          rw [← hi]
          exact ⟨rfl, rfl⟩
        · simp [hij] at hi
          right
          rw [← Array.getElem?_toList] at hi
          refine ⟨List.mem_of_getElem? hi, fun hex => ?_⟩
          obtain ⟨hi', hie⟩ := List.getElem?_eq_some_iff.1 hi
          have hp := List.pairwise_iff_getElem.1 h3
          rcases Nat.lt_or_gt_of_ne hij with hlt' | hlt'
          · exact hp j i hj hi' hlt' (by rw [hje, hie, f3, hex])
          · exact hp i j hi' hj hlt' (by rw [hje, hie, f3, hex])
      refine ⟨_, clock, by simp [hlt]; rfl, ?_, ?_, ?_⟩
      · intro e he
        rcases hmem e he with ⟨h4, h5⟩ | ⟨h4, h5⟩
        · exact ⟨⟨l, by rw [h4]; exact hx⟩, by simp [h4, h5]⟩
        · exact ⟨(h1 e h4).1, by simp [h5]; exact (h1 e h4).2⟩
      · intro k u hk
        by_cases hkx : k = x
        · refine ⟨{ e0 with key := x, val := v }, ?_, by simp [hkx]⟩
          rw [Array.toList_modify]
          exact List.mem_iff_getElem?.2 ⟨j, by rw [List.getElem?_modify]; simp [f2]⟩
        · simp only [] at hk
          rw [if_neg hkx] at hk
          obtain ⟨e, he, hek⟩ := h2 k u hk
          obtain ⟨i, hi⟩ := List.mem_iff_getElem?.1 he
          refine ⟨e, ?_, hek⟩
          rw [Array.toList_modify]
          refine List.mem_iff_getElem?.2 ⟨i, ?_⟩
          have hne : j ≠ i := by
            intro hji
            subst hji
            rw [f2] at hi
            cases hi
            exact hkx (by rw [← hek, f3])
          rw [List.getElem?_modify]
          simp [hne, hi]
      · have hkeys : (es.modify j fun e => { e with key := x, val := v }).toList.map MapEntry.key = es.toList.map MapEntry.key := by
          rw [Array.toList_modify]
          refine List.ext_getElem? fun i => ?_
          rw [List.getElem?_map, List.getElem?_map, List.getElem?_modify]
          by_cases hij : j = i
          · subst hij; rw [f2]; simp [f3]
          · simp [hij]
        have h4 : (es.toList.map MapEntry.key).Pairwise (fun a c => a ≠ c) := List.pairwise_map.2 h3
        rw [← hkeys] at h4
        exact List.pairwise_map.1 h4
    · refine ⟨rfl, rfl, rfl, by simp, fun k hk hne => ?_⟩
      simp only []
      rw [Array.getElem?_setIfInBounds_ne (by intro e; exact hne (by rw [e]))]
end

theorem MapIs.lk {P : Program} {t kt et : TypeId} {w : World} {b : Nat} {g : Value → Option Value} (h : MapIs P kt w b g) (K : KeyLaw P kt) (ht : P.underlying t = some (.map kt et)) {z : Value} (hz : ∀ w, (zeroValue et).run P w = .ok z w) {x : Value} {l : Lit} (hx : keyOf P kt x = some l)
    {ops : Array Oper} {rest : List Oper} {o : Oper} {a : Act} {Q : Exit → Act → World → Prop} (hg : o.guard = none) (m y : Operand) (hop : o.op = Op.lookup t m y true) (hm : a.eval m = .map (some b)) (hy : a.eval y = x)
    (hK : wpList P ops Q rest (a.put o.dst (.tuple #[(g x).getD z, .bool (g x).isSome])) w) : wpList P ops Q (o :: rest) a w := by
  refine wpList_plain hg fun K' hK' => ?_
  unfold Oper.wp
  simp [execOp, hop, hm, hy, h.lookup K ht hz hx, Result.andThen]
  exact hK' _ _ hK

open Classical in
theorem MapIs.up {P : Program} {t kt et : TypeId} {w : World} {b : Nat} {g : Value → Option Value} (h : MapIs P kt w b g) (K : KeyLaw P kt) (ht : P.underlying t = some (.map kt et)) {x v : Value} {l : Lit} (hx : keyOf P kt x = some l)
    {ops : Array Oper} {rest : List Oper} {o : Oper} {a : Act} {Q : Exit → Act → World → Prop} (hg : o.guard = none) (m y z : Operand) (hop : o.op = Op.mapUpdate t m y z) (hm : a.eval m = .map (some b)) (hy : a.eval y = x) (hv : a.eval z = v)
    (hK : ∀ w', MapIs P kt w' b (fun k => if k = x then some v else g k) → w.grownBy w' (some b) → wpList P ops Q rest (a.put o.dst undef) w') : wpList P ops Q (o :: rest) a w := by
  refine wpList_plain hg fun K' hK' => ?_
  obtain ⟨w', hrun, r1, r2⟩ := h.update K ht hx (v := v)
  unfold Oper.wp
  simp [execOp, hop, hm, hy, hv, hrun, Result.andThen]
  exact hK' _ _ (hK w' r1 r2)

def Wf (n : Int) : Prop := (Lit.int .i64 n).wf = true
theorem Wf.of {n : Int} (h : -9223372036854775808 ≤ n ∧ n ≤ 9223372036854775807) : Wf n := WalkArith.wf_i64 h

theorem lits3 (d : Nat) (n : Int) (hn : Wf n) : Try.prog.keyLits (d + 1) 3 [.int .i64 n] = some [.int .i64 n] := by
  unfold Program.keyLits
  rw [Try.underlying3]
  simp only []
  rw [if_pos ⟨trivial, hn⟩]

set_option maxRecDepth 100000 in
theorem key143 {a b c : Int} (ha : Wf a) (hb : Wf b) (hc : Wf c) : ∃ l, keyOf Try.prog 143 (.agg #[.int .i64 a, .int .i64 b, .int .i64 c]) = some l := by
  have hk : Try.prog.keyType 143 = true := by kernel_rfl
  have hcl : Try.prog.cellsOf 143 = 3 := by kernel_rfl
  have hc3 : Try.prog.cellsOf 3 = 1 := by kernel_rfl
  have hf : (Value.agg #[Value.int .i64 a, .int .i64 b, .int .i64 c]).formed Try.prog 143 = true := by simp [Value.formed, Try.underlying143, hcl]
  have hsz : Try.prog.types.size = 186 := Try.types_size
  unfold keyOf
  rw [Try.underlying143]
  simp only [hk, hf, Bool.and_self, if_true, hsz]
  unfold Program.keyLits
  rw [Try.underlying143]
  simp [hcl, hc3, Value.cells, lits3 185 a ha, lits3 185 b hb, lits3 185 c hc]

set_option maxRecDepth 100000 in
theorem key101 {l : List Int} (hl : l.length = 7) (h : ∀ x ∈ l, Wf x) : ∃ k, keyOf Try.prog 101 (sv l) = some k := by
  obtain ⟨a0, a1, a2, a3, a4, a5, a6, rfl⟩ := list7 hl
  have hk : Try.prog.keyType 101 = true := by kernel_rfl
  have hcl : Try.prog.cellsOf 101 = 7 := by kernel_rfl
  have hc3 : Try.prog.cellsOf 3 = 1 := by kernel_rfl
  have hf : (Value.agg #[Value.int .i64 a0, .int .i64 a1, .int .i64 a2, .int .i64 a3, .int .i64 a4, .int .i64 a5, .int .i64 a6]).formed Try.prog 101 = true := by simp [Value.formed, Try.underlying101, hcl]
  have hsz : Try.prog.types.size = 186 := Try.types_size
  show ∃ k, keyOf Try.prog 101 (.agg #[Value.int .i64 a0, .int .i64 a1, .int .i64 a2, .int .i64 a3, .int .i64 a4, .int .i64 a5, .int .i64 a6]) = some k
  unfold keyOf
  rw [Try.underlying101]
  simp only [hk, hf, Bool.and_self, if_true, hsz]
  unfold Program.keyLits
  rw [Try.underlying101]
  simp [hcl, hc3, Value.cells, show List.range 7 = [0, 1, 2, 3, 4, 5, 6] from rfl, lits3 185 a0 (h _ (by simp)), lits3 185 a1 (h _ (by simp)), lits3 185 a2 (h _ (by simp)), lits3 185 a3 (h _ (by simp)), lits3 185 a4 (h _ (by simp)), lits3 185 a5 (h _ (by simp)), lits3 185 a6 (h _ (by simp))]

end Go.Proofs.Ytcecmphdmpeibaa

namespace Go.Proofs.Ytcecmphdmpeibaa
open Go.RowKit

def bv (l : List Bool) : Value := .agg (l.map Value.bool).toArray

/-- A map of counts that says nothing false. -/
def Cnts (l : List Int) (g : Value → Option Value) : Prop := ∀ k v, g k = some v → ∃ x fr to, k = .agg #[.int .i64 x, .int .i64 fr, .int .i64 to] ∧ v = .int .i64 (M.count l x fr to)

theorem Cnts.at_ {l : List Int} {g : Value → Option Value} (h : Cnts l g) {x fr to : Int} {v : Value} (hg : g (.agg #[.int .i64 x, .int .i64 fr, .int .i64 to]) = some v) : v = .int .i64 (M.count l x fr to) := by
  obtain ⟨x', fr', to', hk, hv⟩ := h _ _ hg
  simp at hk
  obtain ⟨rfl, rfl, rfl⟩ := hk
  exact hv

theorem Below.evr {B : Nat} {a b : World} (h : Ev a b) (hB : B ≤ a.heap.size) : Below B a b := Below.mono h hB

def F (f : M.Fl) (l : List Int) (k j : Nat) : Bool := if j < k then M.wrongAt f l j else false

def fcells (f : M.Fl) (l : List Int) (k : Nat) : Array Value := #[.bool (F f l k 0), .bool (F f l k 1), .bool (F f l k 2), .bool (F f l k 3), .bool (F f l k 4)]

theorem fcells_at (f : M.Fl) (l : List Int) (k j : Nat) (hj : j < 5) : (fcells f l k)[j]? = some (.bool (F f l k j)) := by
  have : j = 0 ∨ j = 1 ∨ j = 2 ∨ j = 3 ∨ j = 4 := by omega
  rcases this with rfl | rfl | rfl | rfl | rfl <;> rfl

theorem fcells_set (f : M.Fl) (l : List Int) (k : Nat) (hk : k < 5) : (fcells f l k).setIfInBounds k (.bool (M.wrongAt f l k)) = fcells f l (k + 1) := by
  have : k = 0 ∨ k = 1 ∨ k = 2 ∨ k = 3 ∨ k = 4 := by omega
  rcases this with rfl | rfl | rfl | rfl | rfl <;> simp [fcells, F]

theorem fcells_end (f : M.Fl) (l : List Int) (n : Nat) (hn : f.ts.length = n) : Value.agg (fcells f l n) = bv (M.wrong f l) := by
  have hnone : ∀ j, n ≤ j → M.wrongAt f l j = false := by
    intro j hj
    unfold M.wrongAt
    rw [List.getElem?_eq_none (by omega)]
  have hF : ∀ j, F f l n j = M.wrongAt f l j := by
    intro j
    unfold F
    split
    · rfl
    · rw [hnone j (by omega)]
  simp [fcells, bv, M.wrong, hF]

theorem wrongAt_some {f : M.Fl} {l : List Int} {k : Nat} {x : M.Tl} (h : f.ts[k]? = some x) : M.wrongAt f l k = !M.holds x.ct (M.count l x.wd x.fr x.to) := by
  unfold M.wrongAt; rw [h]

theorem MapIs.same {P : Program} {kt : TypeId} {w w' : World} {b : Nat} {g : Value → Option Value} (h : MapIs P kt w b g) (he : w'.heap[b]? = w.heap[b]?) : MapIs P kt w' b g := by
  obtain ⟨es, clock, hh, rest⟩ := h
  exact ⟨es, clock, he.trans hh, rest⟩

open Classical in
theorem Cnts.put {l : List Int} {g : Value → Option Value} (h : Cnts l g) (x fr to : Int) :
    Cnts l (fun k => if k = .agg #[.int .i64 x, .int .i64 fr, .int .i64 to] then some (.int .i64 (M.count l x fr to)) else g k) := by
  intro k v hk
  simp only [] at hk
  split at hk
  · rename_i e
    exact ⟨x, fr, to, e, by cases hk; rfl⟩
  · exact h k v hk

theorem stretch_e (x : M.Tl) (W : World) : Calls Try.prog 106 #[.agg #[.int .i64 x.wd, .int .i64 x.fr, .int .i64 x.to, .int .i64 x.ct.lo, .int .i64 x.ct.hi]] W fun e w' => e = .returned (.agg #[.int .i64 x.wd, .int .i64 x.fr, .int .i64 x.to]) ∧ Ev W w' := stretch_c x W

set_option maxRecDepth 100000 in
set_option maxHeartbeats 2000000 in
theorem wrong_c (f : M.Fl) (A : Option Addr) (n c : Nat) (l : List Int) (hl : l.length = 7) (w : World) (hs : Sl tcs 5 w w.heap.size A n c f.ts) (hn : n ≤ 5) (hv : ∀ t ∈ f.ts, M.VT t) :
    Calls Try.prog 72 #[fv f (.slice A n c), sv l] w fun e w' => e = .returned (bv (M.wrong f l)) ∧ Ev w w' := by
  obtain ⟨a0, a1, a2, a3, a4, a5, a6, he⟩ := list7 hl
  have hsv : sv l = .agg #[.int .i64 a0, .int .i64 a1, .int .i64 a2, .int .i64 a3, .int .i64 a4, .int .i64 a5, .int .i64 a6] := by rw [he]; rfl
  have hcnt := fun x fr to h0 h1 h2 W => count_c l hl x fr to h0 h1 h2 W
  rw [hsv] at hcnt
  have HCNT := hid hcnt
  rw [fv_eq, hsv]
  clear hsv he hcnt
  have hmm := @run_makeMap Try.prog
  go_enter Try.func72, Try.ntmps72
  go_wp2
  clear hmm
  generalize hW0 : World.alloc (World.alloc (World.alloc (World.alloc w _) _) _) _ = W0
  have hE0 : Ev w W0 := by rw [← hW0]; exact Ev.alloc (Ev.alloc (Ev.alloc (Ev.alloc (Ev.refl _) _) _) _) _
  have hal := alloc4 w _ _ _ _ |> (fun h => by rw [hW0] at h; exact h)
  obtain ⟨_, hq1, hq2, hq3, hz0⟩ := hal
  have hM0 : MapIs Try.prog 143 W0 (w.heap.size + 1 + 1 + 1) (fun _ => none) := ⟨#[], 0, hq3, by simp, by simp, by simp⟩
  have Q1 := hid hq1
  have Q2 : Hid (W0.heap[w.heap.size + 1 + 1]? = some (.cells (fcells f l 0) 105 (0, 0))) := hid hq2
  have HZ := hid hz0
  clear hq1 hq2 hq3 hz0 hW0
  go_loopw [14] (fun i wr => ∃ k : Nat, i = .int .i64 k ∧ k ≤ n ∧ W0.heap.size ≤ wr.heap.size ∧ Below (w.heap.size + 2) W0 wr ∧ Hid (wr.heap[w.heap.size + 1 + 1]? = some (.cells (fcells f l k) 105 (0, 0))) ∧ ∃ g, MapIs Try.prog 143 wr (w.heap.size + 1 + 1 + 1) g ∧ Cnts l g) (fun i _ => n - (intOf i).toNat)
  case atStart => exact ⟨0, rfl, by omega, Nat.le_refl _, Below.refl _ _, Q2, _, hM0, fun _ _ h => by cases h⟩
  case round =>
    obtain ⟨k, rfl, hk, hzr, hB, HF, g, hM, hC⟩ := hrel
    have hz1 : w.heap.size < wr.heap.size := by have := HZ.out; omega
    have hz2 : w.heap.size + 1 < wr.heap.size := by have := HZ.out; omega
    have hz3 : w.heap.size + 1 + 1 < wr.heap.size := by have := HZ.out; omega
    have hz4 : w.heap.size + 1 + 1 + 1 < wr.heap.size := by have := HZ.out; omega
    by_cases hlt : k < n
    · have hEr : Below w.heap.size w wr := Below.trans hE0 (hB.mono (by omega))
      obtain ⟨b, off, x, rfl, hb, hx, hd, hcc⟩ := hs.at_ hEr hlt
      have hvt := hv x (List.mem_of_getElem? hx)
      obtain ⟨v1, v2, v3, v4, v5⟩ := hvt
      have e0 := hcc 0 _ rfl
      have e1 := hcc 1 _ rfl
      have e2 := hcc 2 _ rfl
      have e3 := hcc 3 _ rfl
      have e4 := hcc 4 _ rfl
      clear hcc hd
      simp only [Nat.add_zero] at e0
      have HX := hid hx
      clear hx
      have hkey := key143 (a := x.wd) (b := x.fr) (c := x.to) (Wf.of (by omega)) (Wf.of (by omega)) (Wf.of (by omega))
      obtain ⟨kl, hkey⟩ := hkey
      have HK := hid hkey
      clear hkey
      have hk5 : (k : Int) < 5 := by omega
      go_wp2_with fail
      with_reducible refine (stretch_e x _).mono ?_
      rintro e w1 ⟨rfl, hb1⟩
      have hM1 := hM.keep (Below.evr ((Ev.alloc (Ev.refl wr) _).trans hb1) hz4) (by omega)
      have hT1 := hb1.heap (heap_at wr _ rfl)
      have hs1 := hb1.heap (heap_old _ ((hB.block (w.heap.size + 1) (by omega)).trans Q1.out))
      have hf1 := hb1.heap (heap_old _ HF.out)
      have hlt1 := heap_lt hT1
      have T1 := hid hT1
      have S1 := hid hs1
      have F1 := hid hf1
      obtain ⟨t0, t1, t2, t3, t4⟩ := cells5 hT1
      obtain ⟨s0, s1, s2, s3, s4, s5, s6⟩ := cells7 hs1
      clear hT1 hs1 hf1 e0 e1 e2 e3 e4
      cases hg : g (.agg #[.int .i64 x.wd, .int .i64 x.fr, .int .i64 x.to]) with
      | none =>
        have HG := hid hg
        clear hg
        go_wp2_with (at_lookup; refine MapIs.lk hM1 law143 Try.underlying145 (fun w => Try.zeroValue3 w) HK.out rfl _ _ rfl rfl rfl ?_; rw [HG.out]; simp only [Option.getD_none, Option.isSome_none])
        have hlt2 : w.heap.size + 1 < w1.heap.size := by omega
        have HSE : Hid (∀ w', Ev w1 w' → Ev w1 w' ∧ (∀ b o, b < w1.heap.size → w'.cell? ⟨b, o, none⟩ = w1.cell? ⟨b, o, none⟩)) := hid (fun w' h => ⟨h, fun b o hb => h.cells.1 b o hb⟩)
        go_region_held3 (fun w' => Ev w1 w' ∧ (∀ b o, b < w1.heap.size → w'.cell? ⟨b, o, none⟩ = w1.cell? ⟨b, o, none⟩)) (exact HSE.out _ (by repeat (first | exact Ev.refl w1 | (go_split_ands; assumption) | refine Ev.drew ?_ | refine Ev.alloc ?_ _ | refine Ev.trans ?_ (by assumption)))) (first | (go_at_call 106; with_reducible refine (stretch_e x _).mono ?_; rintro e w2 ⟨rfl, hb2⟩) | (go_at_call 104; with_reducible refine (HCNT.out x.wd x.fr x.to v1 v2 v3 _).mono ?_; rintro e w3 ⟨rfl, hb3⟩))
        have hE3 : Ev w1 w3 := by go_split_ands; assumption
        go_wp2_with fail
        with_reducible refine (stretch_e x _).mono ?_
        rintro e w4 ⟨rfl, hb4⟩
        have hE4 := hE3.trans hb4
        have hM4 := hM1.keep (Below.evr hE4 (show w.heap.size + 1 + 1 + 1 + 1 ≤ w1.heap.size by omega)) (by omega)
        clear t0 t1 t2 t3 t4
        go_wp2_with (at_mapUpdate; refine MapIs.up hM4 law143 Try.underlying145 HK.out rfl _ _ _ rfl rfl rfl rfl ?_; intro w5 hM5 hg5; obtain ⟨t0, t1, t2, t3, t4⟩ := cells5 (grown_heap hg5 (hE4.heap T1.out) (by omega)))
        with_reducible refine (holds_e x.ct _ _).mono ?_
        rintro e w6 ⟨rfl, hb6⟩
        have hf6 := hb6.heap (grown_heap hg5 (hE4.heap F1.out) (by omega))
        have hc6 : w6.cell? ⟨w.heap.size + 1 + 1, k, none⟩ = some (.bool (F f l k k)) := (cell_in hf6 k).trans (fcells_at f l k k (by omega))
        have hz6 : w6.frozen? ⟨w.heap.size + 1 + 1, k, none⟩ = false := frozen_in hf6 k
        have F6 := hid hf6
        clear hf6 t0 t1 t2 t3 t4
        go_wp2
        have b1 : Below (w.heap.size + 2) wr w1 := Below.evr ((Ev.alloc (Ev.refl wr) _).trans hb1) (by omega)
        have b2 := b1.trans (Below.evr hE4 (show w.heap.size + 2 ≤ w1.heap.size by omega))
        have b3 := b2.grown hg5 (show w.heap.size + 2 ≤ w4.heap.size by have := hE4.size; omega) (fun k e => by cases e; omega)
        have z5 : w1.heap.size ≤ w5.heap.size := Nat.le_trans hE4.size hg5.size
        have b4 := b3.trans (Below.evr hb6 (show w.heap.size + 2 ≤ w5.heap.size by omega))
        have b5 := b4.setCell (p := ⟨w.heap.size + 1 + 1, k, none⟩) (by simp) (.bool !M.holds x.ct (M.count l x.wd x.fr x.to))
        refine ⟨⟨k + 1, by go_num, by omega, Nat.le_trans hzr b5.size, hB.trans b5, ?_, _, ?_, hC.put x.wd x.fr x.to⟩, by simp [intOf]; omega⟩
        · have h := set_heap_same (j := k) (v := .bool !M.holds x.ct (M.count l x.wd x.fr x.to)) F6.out
          rw [← wrongAt_some HX.out, fcells_set f l k (by omega)] at h
          rw [← wrongAt_some HX.out]
          exact hid h
        · exact (hM5.keep (Below.evr hb6 (show w.heap.size + 1 + 1 + 1 + 1 ≤ w5.heap.size by omega)) (by omega)).same (Below.heap_setCell _ _ _ _ (by simp))
      | some v =>
        have hvv := hC.at_ hg
        have HG := hid hg
        clear hg
        subst hvv
        go_wp2_with (at_lookup; refine MapIs.lk hM1 law143 Try.underlying145 (fun w => Try.zeroValue3 w) HK.out rfl _ _ rfl rfl rfl ?_; rw [HG.out]; simp only [Option.getD_some, Option.isSome_some])
        with_reducible refine (holds_e x.ct _ _).mono ?_
        rintro e w6 ⟨rfl, hb6⟩
        have hf6 := hb6.heap F1.out
        have hc6 : w6.cell? ⟨w.heap.size + 1 + 1, k, none⟩ = some (.bool (F f l k k)) := (cell_in hf6 k).trans (fcells_at f l k k (by omega))
        have hz6 : w6.frozen? ⟨w.heap.size + 1 + 1, k, none⟩ = false := frozen_in hf6 k
        have F6 := hid hf6
        clear hf6 t0 t1 t2 t3 t4
        go_wp2
        have b1 : Below (w.heap.size + 2) wr w1 := Below.evr ((Ev.alloc (Ev.refl wr) _).trans hb1) (by omega)
        have b4 := b1.trans (Below.evr hb6 (show w.heap.size + 2 ≤ w1.heap.size by omega))
        have b5 := b4.setCell (p := ⟨w.heap.size + 1 + 1, k, none⟩) (by simp) (.bool !M.holds x.ct (M.count l x.wd x.fr x.to))
        refine ⟨⟨k + 1, by go_num, by omega, Nat.le_trans hzr b5.size, hB.trans b5, ?_, _, ?_, hC⟩, by simp [intOf]; omega⟩
        · have h := set_heap_same (j := k) (v := .bool !M.holds x.ct (M.count l x.wd x.fr x.to)) F6.out
          rw [← wrongAt_some HX.out, fcells_set f l k (by omega)] at h
          rw [← wrongAt_some HX.out]
          exact hid h
        · exact (hM1.keep (Below.evr hb6 (show w.heap.size + 1 + 1 + 1 + 1 ≤ w1.heap.size by omega)) (by omega)).same (Below.heap_setCell _ _ _ _ (by simp))
    · obtain rfl : k = n := by omega
      have hEr : Below w.heap.size w wr := Below.trans hE0 (hB.mono (by omega))
      obtain ⟨c0, c1, c2, c3, c4⟩ := cells5 HF.out
      have z0 := frozen_in HF.out 0
      have z1 := frozen_in HF.out 1
      have z2 := frozen_in HF.out 2
      have z3 := frozen_in HF.out 3
      have z4 := frozen_in HF.out 4
      have HEND := hid (fcells_end f l k hs.len)
      go_wp2
      refine bodyPost_ret (v := .agg #[.bool (F f l k 0), .bool (F f l k 1), .bool (F f l k 2), .bool (F f l k 3), .bool (F f l k 4)]) (by simp [results, Try.results72, go_sem, c0, c1, c2, c3, c4]) rfl ⟨?_, ?_⟩
      · rw [← HEND.out]; rfl
      · refine Ev.setCell (Ev.setCell (Ev.setCell (Ev.setCell (Ev.setCell hEr ?_ _) ?_ _) ?_ _) ?_ _) ?_ _ <;> (simp; omega)

end Go.Proofs.Ytcecmphdmpeibaa

namespace Go.Proofs.Ytcecmphdmpeibaa
open Go.RowKit

def ics (x : Int) : List Value := [.int .i64 x]

theorem Sl.int {w wr : World} {B : Nat} {A : Option Addr} {n c : Nat} {xs : List Int} (h : Sl ics 1 w B A n c xs) (hb : Below B w wr) {k : Nat} (hk : k < n) :
    ∃ b off x, A = some ⟨b, off, none⟩ ∧ b < B ∧ xs[k]? = some x ∧ xs.drop k = x :: xs.drop (k + 1) ∧ wr.cell? ⟨b, off + k, none⟩ = some (.int .i64 x) := by
  obtain ⟨b, off, x, hA, hlt, hx, hd, hc⟩ := h.at_ hb hk
  refine ⟨b, off, x, hA, hlt, hx, hd, ?_⟩
  have := hc 0 _ rfl
  simpa using this

def M.least (a : Int) : List Int → Int
  | [] => a
  | y :: r => M.least (if y < a then y else a) r

def M.most (a : Int) : List Int → Int
  | [] => a
  | y :: r => M.most (if a < y then y else a) r

def M.idx (x : Int) : List Int → Int → Int
  | [], _ => -1
  | y :: r, k => if x = y then k else M.idx x r (k + 1)

set_option maxRecDepth 100000 in
set_option maxHeartbeats 1000000 in
theorem least_c (a : Int) (A : Option Addr) (n c : Nat) (xs : List Int) (w : World) (hs : Sl ics 1 w w.heap.size A n c xs) :
    Calls Try.prog 88 #[.int .i64 a, .slice A n c] w fun e w' => e = .returned (.int .i64 (M.least a xs)) ∧ Ev w w' := by
  have hsm := hs.small
  go_enter Try.func88, Try.ntmps88
  go_wp2
  go_loop [0, 9] (fun m i => ∃ k : Nat, ∃ p : Int, i = .int .i64 k ∧ k ≤ n ∧ m = .int .i64 p ∧ Hid (M.least p (xs.drop k) = M.least a xs)) (fun _ i => n - (intOf i).toNat)
  case atStart => exact ⟨0, a, rfl, by omega, rfl, hid (by simp)⟩
  case round =>
    obtain ⟨k, p, rfl, hk, rfl, hp⟩ := hrel
    by_cases hlt : k < n
    · obtain ⟨b, off, x, rfl, hb, hx, hd, e0⟩ := hs.int (Below.refl _ w) hlt
      have H := hid hd
      clear hd hx
      go_wp2
      go_round
      case rel => exact ⟨k + 1, _, by go_num, by omega, rfl, hid (by rw [← hp.out, H.out]; rfl)⟩
      case measure => simp [intOf]; omega
    · have H := hid (hs.done hlt)
      go_wp2
      go_ret
      exact ⟨ret_int (by rw [← hp.out, H.out]; rfl), Ev.refl _⟩

set_option maxRecDepth 100000 in
set_option maxHeartbeats 1000000 in
theorem most_c (A : Option Addr) (n c : Nat) (x : Int) (xs : List Int) (w : World) (hs : Sl ics 1 w w.heap.size A n c (x :: xs)) :
    Calls Try.prog 107 #[.slice A n c] w fun e w' => e = .returned (.int .i64 (M.most x xs)) ∧ Ev w w' := by
  have hsm := hs.small
  have hn : 0 < n := by have := hs.len; simp at this; omega
  obtain ⟨b, off, x', rfl, hb, hx, hd, e0⟩ := hs.int (Below.refl _ w) hn
  obtain rfl : x = x' := by simpa using hx
  clear hx hd
  simp only [Nat.add_zero] at e0
  have hn1 : ¬ (n : Int) < 1 := by omega
  go_enter Try.func107, Try.ntmps107
  go_wp2
  go_loop [3, 4] (fun m i => ∃ k : Nat, ∃ p : Int, i = .int .i64 k ∧ 1 ≤ k ∧ k ≤ n ∧ m = .int .i64 p ∧ Hid (M.most p ((x :: xs).drop k) = M.most x xs)) (fun _ i => n - (intOf i).toNat)
  case atStart => exact ⟨1, x, rfl, by omega, by omega, rfl, hid (by simp)⟩
  case round =>
    obtain ⟨k, p, rfl, hk1, hk, rfl, hp⟩ := hrel
    by_cases hlt : k < n
    · obtain ⟨b', off', y, hA, hb', hx, hd, e1⟩ := hs.int (Below.refl _ w) hlt
      cases hA
      have H := hid hd
      clear hd hx
      go_wp2
      go_round
      case rel => exact ⟨k + 1, _, by go_num, by omega, by omega, rfl, hid (by rw [← hp.out, H.out]; rfl)⟩
      case measure => simp [intOf]; omega
    · have H := hid (hs.done hlt)
      go_wp2
      go_ret
      exact ⟨ret_int (by rw [← hp.out, H.out]; rfl), Ev.refl _⟩

set_option maxRecDepth 100000 in
set_option maxHeartbeats 1000000 in
theorem idx_c (A : Option Addr) (n c : Nat) (xs : List Int) (v : Int) (w : World) (hs : Sl ics 1 w w.heap.size A n c xs) :
    Calls Try.prog 89 #[.slice A n c, .int .i64 v] w fun e w' => e = .returned (.int .i64 (M.idx v xs 0)) ∧ Ev w w' := by
  have hsm := hs.small
  go_enter Try.func89, Try.ntmps89
  go_wp2
  go_loop [8] (fun i => ∃ k : Nat, i = .int .i64 k ∧ k ≤ n ∧ Hid (M.idx v (xs.drop k) k = M.idx v xs 0)) (fun i => n - (intOf i).toNat)
  case atStart => exact ⟨0, rfl, by omega, hid (by simp)⟩
  case round =>
    obtain ⟨k, rfl, hk, hp⟩ := hrel
    by_cases hlt : k < n
    · obtain ⟨b, off, x, rfl, hb, hx, hd, e0⟩ := hs.int (Below.refl _ w) hlt
      have H := hid hd
      clear hd hx
      by_cases hvx : v = x
      · have hB : (v == x) = true := by simpa using hvx
        have HV := hid hvx
        clear hvx
        go_wp2
        go_ret
        exact ⟨ret_int (by rw [← hp.out, H.out]; simp only [M.idx]; rw [if_pos HV.out]), Ev.refl _⟩
      · have hB : (v == x) = false := by simpa using hvx
        have HV := hid hvx
        clear hvx
        go_wp2
        go_round
        case rel => exact ⟨k + 1, by go_num, by omega, hid (by rw [← hp.out, H.out]; simp only [M.idx]; rw [if_neg HV.out]; simp)⟩
        case measure => simp [intOf]; omega
    · have H := hid (hs.done hlt)
      go_wp2
      go_ret
      exact ⟨ret_int (by rw [← hp.out, H.out]; rfl), Ev.refl _⟩

def M.rises : List Int → Bool
  | x :: y :: r => decide (x < y) && M.rises (y :: r)
  | _ => true

set_option maxRecDepth 100000 in
set_option maxHeartbeats 1000000 in
theorem rises_c (A : Option Addr) (n c : Nat) (xs : List Int) (w : World) (hs : Sl ics 1 w w.heap.size A n c xs) :
    Calls Try.prog 85 #[.slice A n c] w fun e w' => e = .returned (.bool (M.rises xs)) ∧ Ev w w' := by
  have hsm := hs.small
  go_enter Try.func85, Try.ntmps85
  go_wp2
  go_loopw [3] (fun i wr => ∃ k : Nat, i = .int .i64 ((k : Int) + 1) ∧ k ≤ n ∧ Ev w wr ∧ Hid (M.rises (xs.drop k) = M.rises xs)) (fun i _ => n + 1 - (intOf i).toNat)
  case atStart => exact ⟨0, by simp, by omega, Ev.refl _, hid (by simp)⟩
  case round =>
    obtain ⟨k, rfl, hk, hB, hp⟩ := hrel
    by_cases hlt : k + 1 < n
    · obtain ⟨b, off, y, hA1, hb, hx, hd, e1⟩ := hs.int hB hlt
      obtain ⟨b', off', x, hA2, hb', hx', hd', e0⟩ := hs.int hB (show k < n by omega)
      rw [hA1] at hA2
      cases hA2
      subst hA1
      have H := hid (hd'.trans (by rw [hd]))
      have H1 := hid hd
      clear hd hx hd' hx'
      have hk0 : (0 : Int) ≤ (k : Int) := by omega
      have hk1 : (k : Int) < (n : Int) := by omega
      have hk2 : (k : Int) + 1 < (n : Int) := by omega
      have w1 : IntKind.i64.wrap ((k : Int) + 1 - 1) = k := by rw [show (k : Int) + 1 - 1 = k from by omega]; exact IntWalk.i64_in _ (by omega)
      by_cases hxy : x < y
      · have HXY : Hid (decide (x < y) = true) := hid (by simpa using hxy)
        go_wp2
        go_quiet (fail)
        go_wp2
        refine ⟨⟨k + 1, by simp, by omega, hB.drewN _, hid ?_⟩, by simp [intOf]; omega⟩
        rw [← hp.out, H.out, H1.out]
        simp only [M.rises]
        rw [HXY.out, Bool.true_and]
      · have HXY : Hid (decide (x < y) = false) := hid (by simpa using hxy)
        go_wp2
        go_quiet (fail)
        go_wp2
        go_ret
        refine ⟨ret_bool ?_, hB.drewN _⟩
        rw [← hp.out, H.out]
        simp only [M.rises]
        rw [HXY.out, Bool.false_and]
    · have H : Hid (M.rises (xs.drop k) = true) := hid (by
        have hl := hs.len
        have : (xs.drop k).length ≤ 1 := by rw [List.length_drop]; omega
        match xs.drop k, this with
        | [], _ => rfl
        | [_], _ => rfl)
      have hge : ¬ ((k : Int) + 1 < (n : Int)) := by omega
      go_wp2
      go_ret
      exact ⟨ret_bool (by rw [← hp.out, H.out]), hB⟩

set_option maxRecDepth 100000 in
set_option maxHeartbeats 1000000 in
theorem allSay_c (f : M.Fl) (A A' : Option Addr) (n c m c' : Nat) (xs : List Int) (w : World) (hs : Sl ics 1 w w.heap.size A n c xs) :
    Calls Try.prog 68 #[.slice A n c, .func (.func 69) #[fv f (.slice A' m c')] #[]] w fun e w' => e = .returned (.bool (xs.all (M.canSay f))) ∧ Ev w w' := by
  have hsm := hs.small
  go_enter Try.func68, Try.ntmps68
  go_wp2
  go_loopw [9] (fun i wr => ∃ k : Nat, i = .int .i64 k ∧ k ≤ n ∧ Ev w wr ∧ Hid ((xs.drop k).all (M.canSay f) = xs.all (M.canSay f))) (fun i _ => n - (intOf i).toNat)
  case atStart => exact ⟨0, rfl, by omega, Ev.refl _, hid rfl⟩
  case round =>
    obtain ⟨k, rfl, hk, hB, hall⟩ := hrel
    by_cases hlt : k < n
    · obtain ⟨b, off, x, rfl, hb, hx, hd, e0⟩ := hs.int hB hlt
      have H := hid hd
      clear hd hx
      by_cases hv : M.canSay f x = true
      · go_wp2_with (go_at_call 69; refine (canSay_c f A' m c' x _).mono ?_; rintro e w1 ⟨rfl, hb1⟩)
        refine ⟨⟨k + 1, by go_num, by omega, hB.trans hb1, ?_⟩, by simp [intOf]; omega⟩
        exact hid (by rw [← hall.out, H.out, List.all_cons, hv, Bool.true_and])
      · have hv' : M.canSay f x = false := by simpa using hv
        go_wp2_with (go_at_call 69; refine (canSay_c f A' m c' x _).mono ?_; rintro e w1 ⟨rfl, hb1⟩)
        go_ret
        exact ⟨ret_bool (by rw [← hall.out, H.out, List.all_cons, hv', Bool.false_and]), hB.trans hb1⟩
    · have H := hid (hs.done hlt)
      go_wp2
      go_ret
      exact ⟨ret_bool (by rw [← hall.out, H.out]; rfl), hB⟩

set_option maxRecDepth 100000 in
set_option maxHeartbeats 1000000 in
theorem allRow_c (f : M.Fl) (A A' : Option Addr) (n c m c' : Nat) (xs : List Int) (w : World) (hs : Sl ics 1 w w.heap.size A n c xs) :
    Calls Try.prog 68 #[.slice A n c, .func (.func 79) #[fv f (.slice A' m c')] #[]] w fun e w' => e = .returned (.bool (xs.all (M.hasRow f))) ∧ Ev w w' := by
  have hsm := hs.small
  go_enter Try.func68, Try.ntmps68
  go_wp2
  go_loopw [9] (fun i wr => ∃ k : Nat, i = .int .i64 k ∧ k ≤ n ∧ Ev w wr ∧ Hid ((xs.drop k).all (M.hasRow f) = xs.all (M.hasRow f))) (fun i _ => n - (intOf i).toNat)
  case atStart => exact ⟨0, rfl, by omega, Ev.refl _, hid rfl⟩
  case round =>
    obtain ⟨k, rfl, hk, hB, hall⟩ := hrel
    by_cases hlt : k < n
    · obtain ⟨b, off, x, rfl, hb, hx, hd, e0⟩ := hs.int hB hlt
      have H := hid hd
      clear hd hx
      by_cases hv : M.hasRow f x = true
      · go_wp2_with (go_at_call 79; refine (hasRow_e f A' m c' x _).mono ?_; rintro e w1 ⟨rfl, hb1⟩)
        refine ⟨⟨k + 1, by go_num, by omega, hB.trans hb1, ?_⟩, by simp [intOf]; omega⟩
        exact hid (by rw [← hall.out, H.out, List.all_cons, hv, Bool.true_and])
      · have hv' : M.hasRow f x = false := by simpa using hv
        go_wp2_with (go_at_call 79; refine (hasRow_e f A' m c' x _).mono ?_; rintro e w1 ⟨rfl, hb1⟩)
        go_ret
        exact ⟨ret_bool (by rw [← hall.out, H.out, List.all_cons, hv', Bool.false_and]), hB.trans hb1⟩
    · have H := hid (hs.done hlt)
      go_wp2
      go_ret
      exact ⟨ret_bool (by rw [← hall.out, H.out]; rfl), hB⟩

end Go.Proofs.Ytcecmphdmpeibaa

namespace Go.Proofs.Ytcecmphdmpeibaa
open Go.RowKit
open Go.WideMaps (KeyLaw)

theorem wide105 : (match Try.prog.underlying 105 with | some (.array _ _) | some (.struct _) => true | _ => false) = true := by rw [Try.underlying105]
theorem row105 : (105 : TypeId) < Try.prog.types.size := by rw [show Try.prog.types.size = 186 from Try.types_size]; decide
set_option maxRecDepth 100000 in
theorem law105 : KeyLaw Try.prog 105 := deep_law_laid laidOut (m := 2) (by omega) row105 (by kernel_rfl) wide105

theorem lits4 (d : Nat) (b : Bool) : Try.prog.keyLits (d + 1) 4 [.bool b] = some [.bool b] := by
  unfold Program.keyLits
  rw [Try.underlying4]

theorem list5 {l : List Bool} (h : l.length = 5) : ∃ a0 a1 a2 a3 a4, l = [a0, a1, a2, a3, a4] := by
  match l, h with
  | [a0, a1, a2, a3, a4], _ => exact ⟨a0, a1, a2, a3, a4, rfl⟩

set_option maxRecDepth 100000 in
theorem key105 {l : List Bool} (hl : l.length = 5) : ∃ k, keyOf Try.prog 105 (bv l) = some k := by
  obtain ⟨a0, a1, a2, a3, a4, rfl⟩ := list5 hl
  have hk : Try.prog.keyType 105 = true := by kernel_rfl
  have hcl : Try.prog.cellsOf 105 = 5 := by kernel_rfl
  have hc3 : Try.prog.cellsOf 4 = 1 := by kernel_rfl
  have hf : (Value.agg #[Value.bool a0, .bool a1, .bool a2, .bool a3, .bool a4]).formed Try.prog 105 = true := by simp [Value.formed, Try.underlying105, hcl]
  have hsz : Try.prog.types.size = 186 := Try.types_size
  show ∃ k, keyOf Try.prog 105 (.agg #[Value.bool a0, .bool a1, .bool a2, .bool a3, .bool a4]) = some k
  unfold keyOf
  rw [Try.underlying105]
  simp only [hk, hf, Bool.and_self, if_true, hsz]
  unfold Program.keyLits
  rw [Try.underlying105]
  simp [hcl, hc3, Value.cells, show List.range 5 = [0, 1, 2, 3, 4] from rfl, lits4]

theorem bv_inj {x y : List Bool} (h : bv x = bv y) : x = y := by
  have h1 : (x.map Value.bool) = (y.map Value.bool) := by simpa [bv] using h
  exact (List.map_inj_right (fun a b hab => by injection hab)).1 h1

set_option maxRecDepth 100000 in
theorem eq105 {x y : List Bool} (hx : x.length = 5) (hy : y.length = 5) (W : World) : (Op.equalIn 10000 105 (bv x) (bv y)).run Try.prog W = .ok (decide (x = y)) W := by
  obtain ⟨kx, hkx⟩ := key105 hx
  obtain ⟨ky, hky⟩ := key105 hy
  obtain ⟨r, hr, hiff⟩ := run_equal_deep (P := Try.prog) W (m := 2) (by omega) (k := 105) (by kernel_rfl) wide105 hkx hky
  have e : r = decide (x = y) := by
    rw [Bool.eq_iff_iff, hiff, decide_eq_true_eq]
    constructor
    · intro h
      rw [h] at hkx
      exact bv_inj (law105.inj hkx hky)
    · intro h
      subst h
      rw [hkx] at hky
      exact Option.some.inj hky
  rw [← e]
  exact hr

def fcs (l : List Bool) : List Value := l.map Value.bool

def M.idxg {α : Type} (p : α → Bool) : List α → Int → Int
  | [], _ => -1
  | y :: r, k => if p y then k else M.idxg p r (k + 1)

theorem M.idxg_any {α : Type} (p : α → Bool) : ∀ (l : List α) (k : Int), 0 ≤ k → decide (0 ≤ M.idxg p l k) = l.any p
  | [], _, _ => by simp [M.idxg]
  | y :: r, k, hk => by
    unfold M.idxg
    by_cases h : p y = true
    · simp [h, hk]
    · simp [h, M.idxg_any p r (k + 1) (by omega)]

theorem M.idxg_bd {α : Type} (p : α → Bool) : ∀ (l : List α) (k : Int), 0 ≤ k → M.idxg p l k = -1 ∨ 0 ≤ M.idxg p l k
  | [], _, _ => by simp [M.idxg]
  | y :: r, k, hk => by
    unfold M.idxg
    split
    · exact .inr hk
    · exact M.idxg_bd p r (k + 1) (by omega)

set_option maxRecDepth 100000 in
set_option maxHeartbeats 1000000 in
theorem idxF_c (A : Option Addr) (n c : Nat) (xs : List (List Bool)) (v : List Bool) (hv : v.length = 5) (h5 : ∀ x ∈ xs, x.length = 5) (w : World) (hs : Sl fcs 5 w w.heap.size A n c xs) :
    Calls Try.prog 130 #[.slice A n c, bv v] w fun e w' => e = .returned (.int .i64 (M.idxg (fun x => decide (v = x)) xs 0)) ∧ Ev w w' := by
  have hsm := hs.small
  have heq := fun (x : List Bool) (hx : x.length = 5) W => eq105 hv hx W
  obtain ⟨a0, a1, a2, a3, a4, he⟩ := list5 hv
  have hbv : bv v = .agg #[.bool a0, .bool a1, .bool a2, .bool a3, .bool a4] := by rw [he]; rfl
  rw [hbv] at heq ⊢
  have HEQ := hid heq
  clear heq he hbv
  go_enter Try.func130, Try.ntmps130
  go_wp2
  generalize hW0 : World.alloc w _ = W0
  have hE0 : Ev w W0 := by rw [← hW0]; exact Ev.alloc (Ev.refl _) _
  have hq := (alloc1 w (.cells #[.bool a0, .bool a1, .bool a2, .bool a3, .bool a4] 105)).1
  rw [hW0] at hq
  have Q := hid hq
  clear hq hW0
  go_loopw [8] (fun i wr => ∃ k : Nat, i = .int .i64 k ∧ k ≤ n ∧ Ev W0 wr ∧ Hid (M.idxg (fun x => decide (v = x)) (xs.drop k) k = M.idxg (fun x => decide (v = x)) xs 0)) (fun i _ => n - (intOf i).toNat)
  case atStart => exact ⟨0, rfl, by omega, Ev.refl _, hid (by simp)⟩
  case round =>
    obtain ⟨k, rfl, hk, hB, hp⟩ := hrel
    by_cases hlt : k < n
    · obtain ⟨b, off, x, rfl, hb, hx, hd, hcc⟩ := hs.at_ (hE0.trans hB) hlt
      have hx5 := h5 x (List.mem_of_getElem? hx)
      have hxe := HEQ.out x hx5
      obtain ⟨b0, b1, b2, b3, b4, hxx⟩ := list5 hx5
      subst hxx
      have e0 := hcc 0 _ rfl
      have e1 := hcc 1 _ rfl
      have e2 := hcc 2 _ rfl
      have e3 := hcc 3 _ rfl
      have e4 := hcc 4 _ rfl
      simp only [Nat.add_zero] at e0
      have H := hid hd
      clear hd hx hcc
      obtain ⟨q0, q1, q2, q3, q4⟩ := cells5 (hB.heap Q.out)
      have hk0 : (0 : Int) ≤ (k : Int) := by omega
      have hk1 : (k : Int) < (n : Int) := by omega
      simp only [bv, List.map_cons, List.map_nil] at hxe
      by_cases hvx : v = [b0, b1, b2, b3, b4]
      · have HV := hid hvx
        have hdv : decide (v = [b0, b1, b2, b3, b4]) = true := by simpa using hvx
        rw [hdv] at hxe
        clear hvx hdv
        go_wp2
        go_quiet (fail)
        go_wp2
        go_ret
        exact ⟨ret_int (by rw [← hp.out, H.out]; simp only [M.idxg]; rw [if_pos (by simpa using HV.out)]), hE0.trans (hB.drewN _)⟩
      · have HV := hid hvx
        have hdv : decide (v = [b0, b1, b2, b3, b4]) = false := by simpa using hvx
        rw [hdv] at hxe
        clear hvx hdv
        go_wp2
        go_quiet (fail)
        go_wp2
        refine ⟨⟨k + 1, by go_num, by omega, hB.drewN _, hid ?_⟩, by simp [intOf]; omega⟩
        rw [← hp.out, H.out]; simp only [M.idxg]; rw [if_neg (by simpa using HV.out)]; simp
    · have H := hid (hs.done hlt)
      go_wp2
      go_ret
      exact ⟨ret_int (by rw [← hp.out, H.out]; rfl), hE0.trans hB⟩

theorem ret_decide {a b : Bool} (h : a = b) : Ending.returned (.bool a) = .returned (.bool b) := by rw [h]

set_option maxRecDepth 100000 in
set_option maxHeartbeats 1000000 in
theorem conF_c (A : Option Addr) (n c : Nat) (xs : List (List Bool)) (v : List Bool) (hv : v.length = 5) (h5 : ∀ x ∈ xs, x.length = 5) (w : World) (hs : Sl fcs 5 w w.heap.size A n c xs) :
    Calls Try.prog 118 #[.slice A n c, bv v] w fun e w' => e = .returned (.bool (xs.any (fun x => decide (v = x)))) ∧ Ev w w' := by
  have hct := fun W (hE : Ev w W) => idxF_c A n c xs v hv h5 W (hs.ev hE)
  have hany := M.idxg_any (fun x => decide (v = x)) xs 0 (by omega)
  obtain ⟨a0, a1, a2, a3, a4, he⟩ := list5 hv
  have hbv : bv v = .agg #[.bool a0, .bool a1, .bool a2, .bool a3, .bool a4] := by rw [he]; rfl
  rw [hbv] at hct ⊢
  have HC := hid hct
  have HA := hid hany
  clear hct he hbv hany
  go_enter Try.func118, Try.ntmps118
  go_wp2_with (go_at_call 130; with_reducible refine (HC.out _ (Ev.alloc (Ev.refl _) _)).mono ?_; rintro e w1 ⟨rfl, hb1⟩)
  go_ret
  exact ⟨ret_bool HA.out, Ev.trans (Ev.alloc (Ev.refl _) _) hb1⟩

end Go.Proofs.Ytcecmphdmpeibaa

namespace Go.Proofs.Ytcecmphdmpeibaa
open Go.RowKit

def scs (l : List Int) : List Value := l.map (Value.int .i64)

set_option maxRecDepth 100000 in
set_option maxHeartbeats 1000000 in
theorem idxfnF_c (A : Option Addr) (n c g : Nat) (caps : List Value) (p : List Bool → Bool) (xs : List (List Bool)) (h5 : ∀ x ∈ xs, x.length = 5) (w : World) (hs : Sl fcs 5 w w.heap.size A n c xs)
    (hcf : ∀ args w, (callFunc g args).run Try.prog w = .ok (.enter g args) w)
    (hG : ∀ x W, x.length = 5 → Ev w W → Calls Try.prog g (bv x :: caps).toArray W fun e w' => e = .returned (.bool (p x)) ∧ Ev W w') :
    Calls Try.prog 131 #[.slice A n c, .func (.func g) #[] caps.toArray] w fun e w' => e = .returned (.int .i64 (M.idxg p xs 0)) ∧ Ev w w' := by
  have hsm := hs.small
  have HG := hid hG
  clear hG
  go_enter Try.func131, Try.ntmps131
  go_wp2
  go_loopw [8] (fun i wr => ∃ k : Nat, i = .int .i64 k ∧ k ≤ n ∧ Ev w wr ∧ Hid (M.idxg p (xs.drop k) k = M.idxg p xs 0)) (fun i _ => n - (intOf i).toNat)
  case atStart => exact ⟨0, rfl, by omega, Ev.refl _, hid (by simp)⟩
  case round =>
    obtain ⟨k, rfl, hk, hB, hp⟩ := hrel
    by_cases hlt : k < n
    · obtain ⟨b, off, x, rfl, hb, hx, hd, hcc⟩ := hs.at_ hB hlt
      have hx5 := h5 x (List.mem_of_getElem? hx)
      have hcl := HG.out x _ hx5 hB
      obtain ⟨b0, b1, b2, b3, b4, hxx⟩ := list5 hx5
      subst hxx
      have e0 := hcc 0 _ rfl
      have e1 := hcc 1 _ rfl
      have e2 := hcc 2 _ rfl
      have e3 := hcc 3 _ rfl
      have e4 := hcc 4 _ rfl
      simp only [Nat.add_zero] at e0
      have H := hid hd
      have HC := hid hcl
      clear hd hx hcc hcl
      by_cases hv : p [b0, b1, b2, b3, b4] = true
      · go_wp2_with fail
        refine HC.out.mono ?_
        rintro e w1 ⟨rfl, hb1⟩
        rw [hv]
        go_wp2
        go_ret
        exact ⟨ret_int (by rw [← hp.out, H.out]; simp only [M.idxg]; rw [if_pos hv]), hB.trans hb1⟩
      · have hv' : p [b0, b1, b2, b3, b4] = false := by simpa using hv
        go_wp2_with fail
        refine HC.out.mono ?_
        rintro e w1 ⟨rfl, hb1⟩
        rw [hv']
        go_wp2
        refine ⟨⟨k + 1, by go_num, by omega, hB.trans hb1, hid ?_⟩, by simp [intOf]; omega⟩
        rw [← hp.out, H.out]; simp only [M.idxg]; rw [if_neg hv]; simp
    · have H := hid (hs.done hlt)
      go_wp2
      go_ret
      exact ⟨ret_int (by rw [← hp.out, H.out]; rfl), hB⟩

set_option maxRecDepth 100000 in
set_option maxHeartbeats 1000000 in
theorem confnF_c (A : Option Addr) (n c g : Nat) (caps : List Value) (p : List Bool → Bool) (xs : List (List Bool)) (h5 : ∀ x ∈ xs, x.length = 5) (w : World) (hs : Sl fcs 5 w w.heap.size A n c xs)
    (hcf : ∀ args w, (callFunc g args).run Try.prog w = .ok (.enter g args) w)
    (hG : ∀ x W, x.length = 5 → Ev w W → Calls Try.prog g (bv x :: caps).toArray W fun e w' => e = .returned (.bool (p x)) ∧ Ev W w') :
    Calls Try.prog 119 #[.slice A n c, .func (.func g) #[] caps.toArray] w fun e w' => e = .returned (.bool (xs.any p)) ∧ Ev w w' := by
  have HC := hid (idxfnF_c A n c g caps p xs h5 w hs hcf hG)
  have HA := hid (M.idxg_any p xs 0 (by omega))
  clear hG
  go_enter Try.func119, Try.ntmps119
  go_wp2_with (go_at_call 131; with_reducible refine HC.out.mono ?_; rintro e w1 ⟨rfl, hb1⟩)
  go_ret
  exact ⟨ret_bool HA.out, hb1⟩

set_option maxRecDepth 100000 in
set_option maxHeartbeats 1000000 in
theorem idxfnS_c (A : Option Addr) (n c g : Nat) (caps : List Value) (p : List Int → Bool) (xs : List (List Int)) (h5 : ∀ x ∈ xs, x.length = 7) (w : World) (hs : Sl scs 7 w w.heap.size A n c xs)
    (hcf : ∀ args w, (callFunc g args).run Try.prog w = .ok (.enter g args) w)
    (hG : ∀ x W, x.length = 7 → Ev w W → Calls Try.prog g (sv x :: caps).toArray W fun e w' => e = .returned (.bool (p x)) ∧ Ev W w') :
    Calls Try.prog 123 #[.slice A n c, .func (.func g) #[] caps.toArray] w fun e w' => e = .returned (.int .i64 (M.idxg p xs 0)) ∧ Ev w w' := by
  have hsm := hs.small
  have HG := hid hG
  clear hG
  go_enter Try.func123, Try.ntmps123
  go_wp2
  go_loopw [8] (fun i wr => ∃ k : Nat, i = .int .i64 k ∧ k ≤ n ∧ Ev w wr ∧ Hid (M.idxg p (xs.drop k) k = M.idxg p xs 0)) (fun i _ => n - (intOf i).toNat)
  case atStart => exact ⟨0, rfl, by omega, Ev.refl _, hid (by simp)⟩
  case round =>
    obtain ⟨k, rfl, hk, hB, hp⟩ := hrel
    by_cases hlt : k < n
    · obtain ⟨b, off, x, rfl, hb, hx, hd, hcc⟩ := hs.at_ hB hlt
      have hx5 := h5 x (List.mem_of_getElem? hx)
      have hcl := HG.out x _ hx5 hB
      obtain ⟨b0, b1, b2, b3, b4, b5, b6, hxx⟩ := list7 hx5
      subst hxx
      have e0 := hcc 0 _ rfl
      have e1 := hcc 1 _ rfl
      have e2 := hcc 2 _ rfl
      have e3 := hcc 3 _ rfl
      have e4 := hcc 4 _ rfl
      have e5 := hcc 5 _ rfl
      have e6 := hcc 6 _ rfl
      simp only [Nat.add_zero] at e0
      have H := hid hd
      have HC := hid hcl
      clear hd hx hcc hcl
      by_cases hv : p [b0, b1, b2, b3, b4, b5, b6] = true
      · go_wp2_with fail
        refine HC.out.mono ?_
        rintro e w1 ⟨rfl, hb1⟩
        rw [hv]
        go_wp2
        go_ret
        exact ⟨ret_int (by rw [← hp.out, H.out]; simp only [M.idxg]; rw [if_pos hv]), hB.trans hb1⟩
      · have hv' : p [b0, b1, b2, b3, b4, b5, b6] = false := by simpa using hv
        go_wp2_with fail
        refine HC.out.mono ?_
        rintro e w1 ⟨rfl, hb1⟩
        rw [hv']
        go_wp2
        refine ⟨⟨k + 1, by go_num, by omega, hB.trans hb1, hid ?_⟩, by simp [intOf]; omega⟩
        rw [← hp.out, H.out]; simp only [M.idxg]; rw [if_neg hv]; simp
    · have H := hid (hs.done hlt)
      go_wp2
      go_ret
      exact ⟨ret_int (by rw [← hp.out, H.out]; rfl), hB⟩

set_option maxRecDepth 100000 in
set_option maxHeartbeats 1000000 in
theorem confnS_c (A : Option Addr) (n c g : Nat) (caps : List Value) (p : List Int → Bool) (xs : List (List Int)) (h5 : ∀ x ∈ xs, x.length = 7) (w : World) (hs : Sl scs 7 w w.heap.size A n c xs)
    (hcf : ∀ args w, (callFunc g args).run Try.prog w = .ok (.enter g args) w)
    (hG : ∀ x W, x.length = 7 → Ev w W → Calls Try.prog g (sv x :: caps).toArray W fun e w' => e = .returned (.bool (p x)) ∧ Ev W w') :
    Calls Try.prog 108 #[.slice A n c, .func (.func g) #[] caps.toArray] w fun e w' => e = .returned (.bool (xs.any p)) ∧ Ev w w' := by
  have HC := hid (idxfnS_c A n c g caps p xs h5 w hs hcf hG)
  have HA := hid (M.idxg_any p xs 0 (by omega))
  clear hG
  go_enter Try.func108, Try.ntmps108
  go_wp2_with (go_at_call 123; with_reducible refine HC.out.mono ?_; rintro e w1 ⟨rfl, hb1⟩)
  go_ret
  exact ⟨ret_bool HA.out, hb1⟩

set_option maxRecDepth 100000 in
set_option maxHeartbeats 1000000 in
theorem allS_c (A : Option Addr) (n c g : Nat) (caps : List Value) (p : List Int → Bool) (xs : List (List Int)) (h5 : ∀ x ∈ xs, x.length = 7) (w : World) (hs : Sl scs 7 w w.heap.size A n c xs)
    (hcf : ∀ args w, (callFunc g args).run Try.prog w = .ok (.enter g args) w)
    (hG : ∀ x W, x ∈ xs → Ev w W → Calls Try.prog g (sv x :: caps).toArray W fun e w' => e = .returned (.bool (p x)) ∧ Ev W w') :
    Calls Try.prog 113 #[.slice A n c, .func (.func g) #[] caps.toArray] w fun e w' => e = .returned (.bool (xs.all p)) ∧ Ev w w' := by
  have hsm := hs.small
  have HG := hid hG
  clear hG
  go_enter Try.func113, Try.ntmps113
  go_wp2
  go_loopw [9] (fun i wr => ∃ k : Nat, i = .int .i64 k ∧ k ≤ n ∧ Ev w wr ∧ Hid ((xs.drop k).all p = xs.all p)) (fun i _ => n - (intOf i).toNat)
  case atStart => exact ⟨0, rfl, by omega, Ev.refl _, hid rfl⟩
  case round =>
    obtain ⟨k, rfl, hk, hB, hall⟩ := hrel
    by_cases hlt : k < n
    · obtain ⟨b, off, x, rfl, hb, hx, hd, hcc⟩ := hs.at_ hB hlt
      have hmem := List.mem_of_getElem? hx
      have hx5 := h5 x hmem
      have hcl := HG.out x _ hmem (hB.alloc (.cells (x.map (Value.int .i64)).toArray 101))
      obtain ⟨b0, b1, b2, b3, b4, b5, b6, hxx⟩ := list7 hx5
      subst hxx
      have e0 := hcc 0 _ rfl
      have e1 := hcc 1 _ rfl
      have e2 := hcc 2 _ rfl
      have e3 := hcc 3 _ rfl
      have e4 := hcc 4 _ rfl
      have e5 := hcc 5 _ rfl
      have e6 := hcc 6 _ rfl
      simp only [Nat.add_zero] at e0
      have H := hid hd
      have HC := hid hcl
      clear hd hx hcc hcl hmem
      by_cases hv : p [b0, b1, b2, b3, b4, b5, b6] = true
      · go_wp2_with fail
        refine HC.out.mono ?_
        rintro e w1 ⟨rfl, hb1⟩
        rw [hv]
        go_wp2
        refine ⟨⟨k + 1, by go_num, by omega, (hB.alloc _).trans hb1, hid ?_⟩, by simp [intOf]; omega⟩
        rw [← hall.out, H.out, List.all_cons, hv, Bool.true_and]
      · have hv' : p [b0, b1, b2, b3, b4, b5, b6] = false := by simpa using hv
        go_wp2_with fail
        refine HC.out.mono ?_
        rintro e w1 ⟨rfl, hb1⟩
        rw [hv']
        go_wp2
        go_ret
        exact ⟨ret_bool (by rw [← hall.out, H.out, List.all_cons, hv', Bool.false_and]), (hB.alloc _).trans hb1⟩
    · have H := hid (hs.done hlt)
      go_wp2
      go_ret
      exact ⟨ret_bool (by rw [← hall.out, H.out]; rfl), hB⟩

end Go.Proofs.Ytcecmphdmpeibaa

namespace Go.Proofs.Ytcecmphdmpeibaa
open Go.RowKit

def bcs (x : Bool) : List Value := [.bool x]

theorem Sl.boo {w wr : World} {B : Nat} {A : Option Addr} {n c : Nat} {xs : List Bool} (h : Sl bcs 1 w B A n c xs) (hb : Below B w wr) {k : Nat} (hk : k < n) :
    ∃ b off x, A = some ⟨b, off, none⟩ ∧ b < B ∧ xs[k]? = some x ∧ xs.drop k = x :: xs.drop (k + 1) ∧ wr.cell? ⟨b, off + k, none⟩ = some (.bool x) := by
  obtain ⟨b, off, x, hA, hlt, hx, hd, hc⟩ := h.at_ hb hk
  refine ⟨b, off, x, hA, hlt, hx, hd, ?_⟩
  have := hc 0 _ rfl
  simpa using this

set_option maxRecDepth 100000 in
set_option maxHeartbeats 1000000 in
theorem idxB_c (A : Option Addr) (n c : Nat) (xs : List Bool) (w : World) (hs : Sl bcs 1 w w.heap.size A n c xs) :
    Calls Try.prog 132 #[.slice A n c, .bool true] w fun e w' => e = .returned (.int .i64 (M.idxg (fun x => x) xs 0)) ∧ Ev w w' := by
  have hsm := hs.small
  go_enter Try.func132, Try.ntmps132
  go_wp2
  go_loop [8] (fun i => ∃ k : Nat, i = .int .i64 k ∧ k ≤ n ∧ Hid (M.idxg (fun x => x) (xs.drop k) k = M.idxg (fun x => x) xs 0)) (fun i => n - (intOf i).toNat)
  case atStart => exact ⟨0, rfl, by omega, hid (by simp)⟩
  case round =>
    obtain ⟨k, rfl, hk, hp⟩ := hrel
    by_cases hlt : k < n
    · obtain ⟨b, off, x, rfl, hb, hx, hd, e0⟩ := hs.boo (Below.refl _ w) hlt
      have H := hid hd
      clear hd hx
      cases x
      · go_wp2
        go_round
        case rel => exact ⟨k + 1, by go_num, by omega, hid (by rw [← hp.out, H.out]; simp only [M.idxg]; rw [if_neg (by simp)]; simp)⟩
        case measure => simp [intOf]; omega
      · go_wp2
        go_ret
        exact ⟨ret_int (by rw [← hp.out, H.out]; simp [M.idxg]), Ev.refl _⟩
    · have H := hid (hs.done hlt)
      go_wp2
      go_ret
      exact ⟨ret_int (by rw [← hp.out, H.out]; rfl), Ev.refl _⟩

set_option maxRecDepth 100000 in
set_option maxHeartbeats 1000000 in
theorem conB_c (A : Option Addr) (n c : Nat) (xs : List Bool) (w : World) (hs : Sl bcs 1 w w.heap.size A n c xs) :
    Calls Try.prog 121 #[.slice A n c, .bool true] w fun e w' => e = .returned (.bool (xs.any (fun x => x))) ∧ Ev w w' := by
  have HC := hid (idxB_c A n c xs w hs)
  have HA := hid (M.idxg_any (fun x => x) xs 0 (by omega))
  go_enter Try.func121, Try.ntmps121
  go_wp2_with (go_at_call 132; with_reducible refine HC.out.mono ?_; rintro e w1 ⟨rfl, hb1⟩)
  go_ret
  exact ⟨ret_bool HA.out, hb1⟩

def M.agree1 (e : Nat) (x : List Bool) : Bool := !((x.take e).any fun y => y)

theorem slice5 (b e : Nat) (h : e ≤ 5) (w : World) :
    (Instr.sliceAt 105 (.pointer (some ⟨b, 0, none⟩)) none (some (.int .i64 e)) none).run Try.prog w = .ok (.slice (some ⟨b, 0, none⟩) e 5) w := by
  have ha : Try.prog.arrayLen 105 = 5 := by kernel_rfl
  have he : Try.prog.elem 105 = 4 := by kernel_rfl
  rw [run_sliceAt_array_h w 105 ⟨b, 0, none⟩ (by rw [ha, he]; exact Try.underlying105) .i64 e (by omega) (by rw [ha]; omega), he, Try.sizeOf4]
  simp only [Result.andThen_ok, slicedAt, ha, Int.toNat_natCast]
  rw [if_neg (by omega)]
  simp [Addr.add]

set_option maxRecDepth 100000 in
set_option maxHeartbeats 1000000 in
theorem agree1_c (e p : Nat) (he : e ≤ 5) (x : List Bool) (hx : x.length = 5) (w : World) (hp : w.cell? ⟨p, 0, none⟩ = some (.int .i64 e)) (hlt : p < w.heap.size) :
    Calls Try.prog 120 #[bv x, .pointer (some ⟨p, 0, none⟩)] w fun r w' => r = .returned (.bool (M.agree1 e x)) ∧ Ev w w' := by
  have hsl := fun b wx => slice5 b e he wx
  obtain ⟨a0, a1, a2, a3, a4, hxe⟩ := list5 hx
  have hbv : bv x = .agg #[.bool a0, .bool a1, .bool a2, .bool a3, .bool a4] := by rw [hxe]; rfl
  have hcall : Calls Try.prog 121 #[.slice (some ⟨w.heap.size, 0, none⟩) e 5, .bool true] (w.alloc (.cells #[.bool a0, .bool a1, .bool a2, .bool a3, .bool a4] 105)) fun r w' => r = .returned (.bool ((x.take e).any fun y => y)) ∧ Ev (w.alloc (.cells #[.bool a0, .bool a1, .bool a2, .bool a3, .bool a4] 105)) w' := by
    refine conB_c _ e 5 (x.take e) _ ⟨by rw [List.length_take]; omega, he, by omega, fun _ => ⟨w.heap.size, 0, rfl, by simp, fun k y hk j v hj => ?_⟩⟩
    have hq := (alloc1 w (.cells #[.bool a0, .bool a1, .bool a2, .bool a3, .bool a4] 105)).1
    have hj0 : j = 0 := by
      have : j < (bcs y).length := (List.getElem?_eq_some_iff.1 hj).1
      simpa [bcs] using this
    subst hj0
    have hv : v = .bool y := by simpa [bcs] using hj.symm
    subst hv
    rw [show 0 + k * 1 + 0 = k from by omega, cell_in hq k]
    rw [List.getElem?_take] at hk
    split at hk
    · rw [hxe] at hk
      have : (#[Value.bool a0, .bool a1, .bool a2, .bool a3, .bool a4] : Array Value) = ([a0, a1, a2, a3, a4].map Value.bool).toArray := rfl
      rw [this]
      simp only [List.getElem?_toArray, List.getElem?_map, hk]
      rfl
    · cases hk
  rw [hbv]
  have HC := hid hcall
  clear hcall hbv hxe
  go_enter Try.func120, Try.ntmps120
  go_wp2_with (go_at_call 121; with_reducible refine HC.out.mono ?_; rintro e w1 ⟨rfl, hb1⟩)
  go_ret
  exact ⟨ret_bool rfl, Ev.trans (Ev.alloc (Ev.refl _) _) hb1⟩

end Go.Proofs.Ytcecmphdmpeibaa

namespace Go.Proofs.Ytcecmphdmpeibaa
open Go.RowKit

set_option maxRecDepth 100000 in
set_option maxHeartbeats 1000000 in
theorem who1_c (row said : Int) (p q : Nat) (h0 : 0 ≤ row) (h6 : row ≤ 6) (x : List Int) (hx : x.length = 7) (w : World) (hp : w.cell? ⟨p, 0, none⟩ = some (.int .i64 row)) (hq : w.cell? ⟨q, 0, none⟩ = some (.int .i64 said)) (hlt : p < w.heap.size) (hlq : q < w.heap.size) :
    Calls Try.prog 109 #[sv x, .pointer (some ⟨p, 0, none⟩), .pointer (some ⟨q, 0, none⟩)] w fun r w' => r = .returned (.bool (x.getD row.toNat 0 == said)) ∧ Ev w w' := by
  obtain ⟨r, rfl⟩ := Int.eq_ofNat_of_zero_le h0
  obtain ⟨a0, a1, a2, a3, a4, a5, a6, hxe⟩ := list7 hx
  have hsv : sv x = .agg #[.int .i64 a0, .int .i64 a1, .int .i64 a2, .int .i64 a3, .int .i64 a4, .int .i64 a5, .int .i64 a6] := by rw [hxe]; rfl
  have hy : x[r]? = some (x[r]'(by omega)) := List.getElem?_eq_getElem _
  generalize x[r]'(by omega) = y at hy
  rw [hsv]
  have hy' : [a0, a1, a2, a3, a4, a5, a6][r]? = some y := by rw [← hxe]; exact hy
  have HY := hid hy
  have HY' := hid hy'
  have h7 : (r : Int) < 7 := by omega
  clear hy hy' hsv hxe
  go_enter Try.func109, Try.ntmps109
  go_wp2
  generalize hW0 : World.alloc w _ = W0
  have hE0 : Ev w W0 := by rw [← hW0]; exact Ev.alloc (Ev.refl _) _
  have hq0 := (alloc1 w (.cells #[.int .i64 a0, .int .i64 a1, .int .i64 a2, .int .i64 a3, .int .i64 a4, .int .i64 a5, .int .i64 a6] 101)).1
  rw [hW0] at hq0
  have c0 : W0.cell? ⟨w.heap.size, r, none⟩ = some (.int .i64 y) := by
    rw [cell_in hq0 r]
    have : (#[Value.int .i64 a0, .int .i64 a1, .int .i64 a2, .int .i64 a3, .int .i64 a4, .int .i64 a5, .int .i64 a6] : Array Value) = ([a0, a1, a2, a3, a4, a5, a6].map (Value.int .i64)).toArray := rfl
    rw [this]
    simp only [List.getElem?_toArray, List.getElem?_map, HY'.out]
    rfl
  have c1 : W0.cell? ⟨p, 0, none⟩ = some (.int .i64 r) := (hE0.cells.1 p 0 hlt).trans hp
  have c2 : W0.cell? ⟨q, 0, none⟩ = some (.int .i64 said) := (hE0.cells.1 q 0 hlq).trans hq
  clear hq0 hW0 hp hq
  go_quiet (fail)
  go_wp2
  go_ret
  refine ⟨ret_bool ?_, hE0.drewN _⟩
  rw [List.getD_eq_getElem?_getD, Int.toNat_natCast, HY.out]
  rfl

def M.mask (x : List Bool) : List Int → List Bool
  | [] => x
  | i :: r => M.mask (x.set i.toNat false) r
def M.spares1 (l : List Int) (x : List Bool) : Bool := decide (M.mask x l = [false, false, false, false, false])

theorem M.mask_len (x : List Bool) : ∀ l, (M.mask x l).length = x.length
  | [] => rfl
  | i :: r => by unfold M.mask; rw [M.mask_len]; simp

set_option maxRecDepth 100000 in
set_option maxHeartbeats 1000000 in
theorem spares1_c (p : Nat) (A : Option Addr) (n c : Nat) (l : List Int) (hl : ∀ i ∈ l, 0 ≤ i ∧ i < 5) (x : List Bool) (hx : x.length = 5) (w : World) (hp : w.cell? ⟨p, 0, none⟩ = some (.slice A n c)) (hlt : p < w.heap.size) (hs : Sl ics 1 w w.heap.size A n c l) :
    Calls Try.prog 122 #[bv x, .pointer (some ⟨p, 0, none⟩)] w fun r w' => r = .returned (.bool (M.spares1 l x)) ∧ Ev w w' := by
  have hsm := hs.small
  have hfin := fun W => eq105 (x := M.mask x l) (y := [false, false, false, false, false]) (by rw [M.mask_len]; exact hx) rfl W
  obtain ⟨m0, m1, m2, m3, m4, hme⟩ := list5 (l := M.mask x l) (by rw [M.mask_len]; exact hx)
  have HM := hid hme
  rw [hme] at hfin
  simp only [bv, List.map_cons, List.map_nil] at hfin
  have HF := hid hfin
  clear hme hfin
  obtain ⟨a0, a1, a2, a3, a4, hxe⟩ := list5 hx
  have hbv : bv x = .agg #[.bool a0, .bool a1, .bool a2, .bool a3, .bool a4] := by rw [hxe]; rfl
  rw [hbv]
  have HX := hid hxe
  clear hxe hbv
  go_enter Try.func122, Try.ntmps122
  go_wp2
  generalize hW0 : World.alloc w _ = W0
  have hE0 : Ev w W0 := by rw [← hW0]; exact Ev.alloc (Ev.refl _) _
  have hq0 := (alloc1 w (.cells #[.bool a0, .bool a1, .bool a2, .bool a3, .bool a4] 105)).1
  rw [hW0] at hq0
  have Q : Hid (W0.heap[w.heap.size]? = some (.cells (x.map Value.bool).toArray 105 (0, 0))) := hid (by rw [hq0, HX.out]; rfl)
  clear hq0 hW0
  go_loopw [8] (fun i wr => ∃ k : Nat, ∃ y : List Bool, i = .int .i64 k ∧ k ≤ n ∧ Ev w wr ∧ Hid (wr.heap[w.heap.size]? = some (.cells (y.map Value.bool).toArray 105 (0, 0))) ∧ y.length = 5 ∧ Hid (M.mask y (l.drop k) = M.mask x l)) (fun i _ => n - (intOf i).toNat)
  case atStart => exact ⟨0, x, rfl, by omega, hE0, Q, hx, hid rfl⟩
  case round =>
    obtain ⟨k, y, rfl, hk, hB, HQ, hy5, hm⟩ := hrel
    by_cases hlt' : k < n
    · obtain ⟨b, off, i, rfl, hb, hi, hd, e0⟩ := hs.int hB hlt'
      have H := hid hd
      obtain ⟨i0, i4⟩ := hl i (List.mem_of_getElem? hi)
      obtain ⟨ii, rfl⟩ := Int.eq_ofNat_of_zero_le i0
      clear hd hi
      have hc0 : ∃ u, wr.cell? ⟨w.heap.size, ii, none⟩ = some (.bool u) := by
        rw [cell_in HQ.out ii]
        have : y[ii]? = some (y[ii]'(by omega)) := List.getElem?_eq_getElem _
        exact ⟨y[ii]'(by omega), by simp [List.getElem?_map, this]⟩
      obtain ⟨u, hc0⟩ := hc0
      have hz0 := frozen_in HQ.out ii
      go_wp2
      refine ⟨⟨k + 1, y.set ii false, by go_num, by omega, hB.setCell (by simp) _, hid ?_, by simpa using hy5, hid ?_⟩, by simp [intOf]; omega⟩
      · rw [set_heap_same HQ.out]
        simp [List.map_set]
      · rw [← hm.out, H.out]
        simp [M.mask]
    · have hnil := hs.done hlt'
      have hmy := hm.out
      rw [hnil] at hmy
      have hmy' : y = [m0, m1, m2, m3, m4] := by rw [← HM.out, ← hmy]; rfl
      subst hmy'
      obtain ⟨q0, q1, q2, q3, q4⟩ := cells5 (v0 := .bool m0) (v1 := .bool m1) (v2 := .bool m2) (v3 := .bool m3) (v4 := .bool m4) HQ.out
      have hf := HF.out
      clear hmy hnil
      go_wp2
      go_ret
      exact ⟨ret_bool (by unfold M.spares1; rw [HM.out]; cases m0 <;> cases m1 <;> cases m2 <;> cases m3 <;> cases m4 <;> rfl), hB⟩

end Go.Proofs.Ytcecmphdmpeibaa
