import Derived.WalkKit
import Derived.WalkSpells
import Derived.WalkLawsBesides
import Derived.BigQuiet
import Derived.Deep.QuietTactic
import Derived.Deep.RegionHeld3
import Derived.DeepKeys5
import Derived.Maps.OwnOps
import Derived.Maps.AppendAt
import Derived.RangeFuncNested
import Derived.RangeFuncBound
import Derived.RangeFuncCalls
import Derived.RangeFuncLeaves
import Derived.Shelf.Abstract
import Derived.Shelf.RegionOpen
import Derived.OwnWalkIn
import Derived.TacticsInMore
import Derived.LoopNIn
import Derived.LoopIn
import Derived.Laws.EntriesVeiled
import Derived.Scope
import Derived.WalkMore
import Derived.OrdersIn
import Derived.OrdersHeld
import Derived.Deep.DeepCutAuto
import Derived.IntWalk
import Derived.Laws.CopyOwn
import Derived.Laws.AppendOwnNone
import Derived.ProofKit
import Derived.OpenShut
import Derived.Carry
import Derived.ChangeSame
import Derived.OneCell
import Derived.Test.YtgimcephbeajlaaProg
import Derived.Test.YtgimcephbeajlaaChecked
import Derived.Test.YtgimcephbeajlaaRows
set_option linter.unusedSimpArgs false
set_option linter.unusedVariables false

set_option linter.unusedSimpArgs false
set_option linter.unusedVariables false
namespace Go.Proofs.Ytgimcephbeajlaa.M

structure Rg where
 lo : Int
 hi : Int
deriving DecidableEq

def holds (r : Rg) (n : Int) : Bool := decide (r.lo ≤ n) && decide (n ≤ r.hi)
def upTo (r : Rg) (l : Int) : Bool := decide (0 ≤ r.lo) && (decide (r.lo ≤ r.hi) && decide (r.hi ≤ l))

/-- How many of some numbers are x. -/
def cnt (x : Int) : List Int → Int
 | [] => 0
 | y :: r => (if y = x then 1 else 0) + cnt x r

theorem cnt_bd (x : Int) : ∀ l, 0 ≤ cnt x l ∧ cnt x l ≤ l.length
 | [] => by simp [cnt]
 | y :: r => by
  have := cnt_bd x r
  unfold cnt
  split <;> simp <;> omega

/-- The rows from fr to to (both included) of which a sheet says x. -/
def count (l : List Int) (x fr tt : Int) : Int := cnt x ((l.drop fr.toNat).take (tt.toNat + 1 - fr.toNat))

end Go.Proofs.Ytgimcephbeajlaa.M

namespace Go.Proofs.Ytgimcephbeajlaa
open Go.RowKit

theorem ret_bool {a b : Bool} (h : a = b) : Ending.returned (.bool a) = .returned (.bool b) := by rw [h]

set_option maxHeartbeats 400000 in
theorem holds_c (r : M.Rg) (n : Int) (w : World) :
  Calls Try.prog 90 #[.agg #[.int .i64 r.lo, .int .i64 r.hi], .int .i64 n] w fun e w' => e = .returned (.bool (M.holds r n)) ∧ Below w.heap.size w w' := by
 go_enter Try.func90, Try.ntmps90
 go_wp2
 all_goals (go_ret; exact ⟨ret_bool (by simp only [M.holds]; first | (simp only [*]; simp; done) | (simp; omega)), (Below.refl _ _).alloc (Nat.le_refl _) _⟩)

set_option maxHeartbeats 400000 in
theorem upTo_c (r : M.Rg) (n : Int) (w : World) :
  Calls Try.prog 116 #[.agg #[.int .i64 r.lo, .int .i64 r.hi], .int .i64 n] w fun e w' => e = .returned (.bool (M.upTo r n)) ∧ Below w.heap.size w w' := by
 go_enter Try.func116, Try.ntmps116
 go_wp2
 all_goals (go_ret; exact ⟨ret_bool (by simp only [M.upTo]; first | (simp only [*]; simp; done) | (simp; omega)), (Below.refl _ _).alloc (Nat.le_refl _) _⟩)

end Go.Proofs.Ytgimcephbeajlaa

namespace Go.Proofs.Ytgimcephbeajlaa
open Go.RowKit

/-- The call has only made memory: all that lay lies as it lay. -/
def Ev (w w' : World) : Prop := Below w.heap.size w w'
theorem Ev.refl (w : World) : Ev w w := Below.refl _ _
theorem Ev.size {w w' : World} (h : Ev w w') : w.heap.size ≤ w'.heap.size := Below.size h
theorem Ev.trans {a b c : World} (h : Ev a b) (k : Ev b c) : Ev a c := Below.trans h (Below.mono k h.size)
theorem Ev.alloc {a b : World} (h : Ev a b) (o : Obj) : Ev a (b.alloc o) := Below.alloc h h.size o
theorem Ev.setCell {a b : World} (h : Ev a b) {p : Addr} (hp : a.heap.size ≤ p.block) (v : Value) : Ev a (b.setCell p v) := Below.setCell h hp v
theorem Ev.drew {a b : World} (h : Ev a b) : Ev a b.drew := Below.drew h
theorem Ev.drewN {a b : World} (h : Ev a b) (n : Nat) : Ev a (b.drewN n) := by
 have h' : Below a.heap.size a b := h
 exact ⟨h'.os, h'.tape, h'.output, h'.size, h'.block⟩
theorem Ev.cells {W w1 : World} (hb : Ev W w1) : (∀ b o, b < W.heap.size → w1.cell? ⟨b, o, none⟩ = W.cell? ⟨b, o, none⟩) ∧ (∀ b o, b < W.heap.size → w1.frozen? ⟨b, o, none⟩ = W.frozen? ⟨b, o, none⟩) :=
 ⟨fun b o h => Below.cell hb (p := ⟨b, o, none⟩) h, fun b o h => Below.frozen hb (p := ⟨b, o, none⟩) h⟩

theorem holds_e (r : M.Rg) (n : Int) (w : World) :
  Calls Try.prog 90 #[.agg #[.int .i64 r.lo, .int .i64 r.hi], .int .i64 n] w fun e w' => e = .returned (.bool (M.holds r n)) ∧ Ev w w' := holds_c r n w
theorem upTo_e (r : M.Rg) (n : Int) (w : World) :
  Calls Try.prog 116 #[.agg #[.int .i64 r.lo, .int .i64 r.hi], .int .i64 n] w fun e w' => e = .returned (.bool (M.upTo r n)) ∧ Ev w w' := upTo_c r n w

theorem heap_at (w : World) (o : Obj) {k : Nat} (h : k = w.heap.size) : (w.alloc o).heap[k]? = some o := by
 subst h; show (w.heap.push o)[w.heap.size]? = _; simp
theorem heap_old {w : World} {k : Nat} {x : Obj} (o : Obj) (h : w.heap[k]? = some x) : (w.alloc o).heap[k]? = some x :=
 (Below.heap_alloc w o k (Array.getElem?_eq_some_iff.1 h).1).trans h
theorem cell_in {w : World} {b : Nat} {cs : Array Value} {t : TypeId} (h : w.heap[b]? = some (.cells cs t (0, 0))) (j : Nat) : w.cell? ⟨b, j, none⟩ = cs[j]? := by
 simp [World.cell?, h]
theorem frozen_in {w : World} {b : Nat} {cs : Array Value} {t : TypeId} (h : w.heap[b]? = some (.cells cs t (0, 0))) (j : Nat) : w.frozen? ⟨b, j, none⟩ = false := by
 simp [World.frozen?, h]
theorem alloc1 (w : World) (a : Obj) : (w.alloc a).heap[w.heap.size]? = some a ∧ (w.alloc a).heap.size = w.heap.size + 1 := ⟨heap_at w a rfl, by simp⟩
theorem alloc2 (w : World) (a b : Obj) : ((w.alloc a).alloc b).heap[w.heap.size]? = some a ∧ ((w.alloc a).alloc b).heap[w.heap.size + 1]? = some b ∧ ((w.alloc a).alloc b).heap.size = w.heap.size + 2 :=
 ⟨heap_old b (alloc1 w a).1, heap_at _ b (by simp), by simp⟩
theorem alloc3 (w : World) (a b c : Obj) : (((w.alloc a).alloc b).alloc c).heap[w.heap.size]? = some a ∧ (((w.alloc a).alloc b).alloc c).heap[w.heap.size + 1]? = some b ∧ (((w.alloc a).alloc b).alloc c).heap[w.heap.size + 1 + 1]? = some c ∧ (((w.alloc a).alloc b).alloc c).heap.size = w.heap.size + 3 :=
 ⟨heap_old c (alloc2 w a b).1, heap_old c (alloc2 w a b).2.1, heap_at _ c (by simp), by simp⟩
theorem alloc4 (w : World) (a b c d : Obj) : ((((w.alloc a).alloc b).alloc c).alloc d).heap[w.heap.size]? = some a ∧ ((((w.alloc a).alloc b).alloc c).alloc d).heap[w.heap.size + 1]? = some b ∧ ((((w.alloc a).alloc b).alloc c).alloc d).heap[w.heap.size + 1 + 1]? = some c ∧ ((((w.alloc a).alloc b).alloc c).alloc d).heap[w.heap.size + 1 + 1 + 1]? = some d ∧ ((((w.alloc a).alloc b).alloc c).alloc d).heap.size = w.heap.size + 4 :=
 ⟨heap_old d (alloc3 w a b c).1, heap_old d (alloc3 w a b c).2.1, heap_old d (alloc3 w a b c).2.2.1, heap_at _ d (by simp), by simp⟩

theorem cells5 {W : World} {b : Nat} {t : TypeId} {v0 v1 v2 v3 v4 : Value} (h : W.heap[b]? = some (.cells #[v0, v1, v2, v3, v4] t (0, 0))) :
  W.cell? ⟨b, 0, none⟩ = some v0 ∧ W.cell? ⟨b, 1, none⟩ = some v1 ∧ W.cell? ⟨b, 2, none⟩ = some v2 ∧ W.cell? ⟨b, 3, none⟩ = some v3 ∧ W.cell? ⟨b, 4, none⟩ = some v4 :=
 ⟨cell_in h 0, cell_in h 1, cell_in h 2, cell_in h 3, cell_in h 4⟩
theorem cells7 {W : World} {b : Nat} {t : TypeId} {v0 v1 v2 v3 v4 v5 v6 : Value} (h : W.heap[b]? = some (.cells #[v0, v1, v2, v3, v4, v5, v6] t (0, 0))) :
  W.cell? ⟨b, 0, none⟩ = some v0 ∧ W.cell? ⟨b, 1, none⟩ = some v1 ∧ W.cell? ⟨b, 2, none⟩ = some v2 ∧ W.cell? ⟨b, 3, none⟩ = some v3 ∧ W.cell? ⟨b, 4, none⟩ = some v4 ∧ W.cell? ⟨b, 5, none⟩ = some v5 ∧ W.cell? ⟨b, 6, none⟩ = some v6 :=
 ⟨cell_in h 0, cell_in h 1, cell_in h 2, cell_in h 3, cell_in h 4, cell_in h 5, cell_in h 6⟩
theorem Ev.heap {a b : World} (h : Ev a b) {k : Nat} {o : Obj} (hk : a.heap[k]? = some o) : b.heap[k]? = some o :=
 (Below.block h k (Array.getElem?_eq_some_iff.1 hk).1).trans hk
theorem grown_heap {a b : World} {r : Nat} (h : a.grownBy b (some r)) {k : Nat} {o : Obj} (hk : a.heap[k]? = some o) (hne : k ≠ r) : b.heap[k]? = some o :=
 (h.block k (Array.getElem?_eq_some_iff.1 hk).1 (by simpa using hne)).trans hk
theorem heap_lt {w : World} {k : Nat} {o : Obj} (hk : w.heap[k]? = some o) : k < w.heap.size := (Array.getElem?_eq_some_iff.1 hk).1
theorem set_heap {w : World} {k b j : Nat} {v : Value} {o : Obj} (hk : w.heap[k]? = some o) (hne : k ≠ b) : (w.setCell ⟨b, j, none⟩ v).heap[k]? = some o :=
 (Below.heap_setCell w ⟨b, j, none⟩ v k hne).trans hk
theorem set_heap_same {w : World} {b j : Nat} {v : Value} {cs : Array Value} {t : TypeId} (hk : w.heap[b]? = some (.cells cs t (0, 0))) : (w.setCell ⟨b, j, none⟩ v).heap[b]? = some (.cells (cs.setIfInBounds j v) t (0, 0)) := by
 simp [World.setCell, Array.getElem?_modify, hk]

end Go.Proofs.Ytgimcephbeajlaa

namespace Go.Proofs.Ytgimcephbeajlaa
theorem hid {p : Prop} (h : p) : RowKit.Hid p := h
open Go.RowKit

/-- The slice value '.slice A n c' reads, in w, as the list xs of things of sz cells each; it lies below block B. -/
structure Sl {α : Type} (enc : α → List Value) (sz : Nat) (w : World) (B : Nat) (A : Option Addr) (n c : Nat) (xs : List α) : Prop where
 len : xs.length = n
 cap : n ≤ c
 small : n ≤ 1099511627776
 cells : 0 < n → ∃ b off, A = some ⟨b, off, none⟩ ∧ b < B ∧ ∀ (k : Nat) (x : α), xs[k]? = some x → ∀ (j : Nat) (v : Value), (enc x)[j]? = some v → w.cell? ⟨b, off + k * sz + j, none⟩ = some v

theorem Sl.keep {α : Type} {enc : α → List Value} {sz : Nat} {w w' : World} {B B' : Nat} {A : Option Addr} {n c : Nat} {xs : List α}
  (h : Sl enc sz w B A n c xs) (hb : Below B w w') (hB : B ≤ B') : Sl enc sz w' B' A n c xs :=
 ⟨h.len, h.cap, h.small, fun hn => by
  obtain ⟨b, off, hA, hlt, hc⟩ := h.cells hn
  exact ⟨b, off, hA, by omega, fun k x hk j v hj => (hb.cell (p := ⟨b, _, none⟩) hlt).trans (hc k x hk j v hj)⟩⟩
theorem Sl.ev {α : Type} {enc : α → List Value} {sz : Nat} {w w' : World} {A : Option Addr} {n c : Nat} {xs : List α}
  (h : Sl enc sz w w.heap.size A n c xs) (hb : Ev w w') : Sl enc sz w' w'.heap.size A n c xs := h.keep hb hb.size

theorem drop_some {α : Type} {xs : List α} {k : Nat} {x : α} (h : xs[k]? = some x) : xs.drop k = x :: xs.drop (k + 1) := by
 obtain ⟨hlt, rfl⟩ := List.getElem?_eq_some_iff.1 h
 exact List.drop_eq_getElem_cons hlt

/-- The k-th thing of a slice, and where it lies in a later world. -/
theorem Sl.at_ {α : Type} {enc : α → List Value} {sz : Nat} {w wr : World} {B : Nat} {A : Option Addr} {n c : Nat} {xs : List α} (h : Sl enc sz w B A n c xs) (hb : Below B w wr) {k : Nat} (hk : k < n) :
  ∃ b off x, A = some ⟨b, off, none⟩ ∧ b < B ∧ xs[k]? = some x ∧ xs.drop k = x :: xs.drop (k + 1) ∧ ∀ (j : Nat) (v : Value), (enc x)[j]? = some v → wr.cell? ⟨b, off + k * sz + j, none⟩ = some v := by
 obtain ⟨b, off, hA, hlt, hc⟩ := h.cells (by omega)
 have hx : xs[k]? = some (xs[k]'(by have := h.len; omega)) := List.getElem?_eq_getElem _
 exact ⟨b, off, _, hA, hlt, hx, drop_some hx, fun j v hj => (hb.cell (p := ⟨b, _, none⟩) hlt).trans (hc k _ hx j v hj)⟩

theorem Sl.done {α : Type} {enc : α → List Value} {sz : Nat} {w : World} {B : Nat} {A : Option Addr} {n c : Nat} {xs : List α} (h : Sl enc sz w B A n c xs) {k : Nat} (hk : ¬ k < n) : xs.drop k = [] :=
 List.drop_eq_nil_of_le (by have := h.len; omega)

end Go.Proofs.Ytgimcephbeajlaa

namespace Go.Proofs.Ytgimcephbeajlaa
open Go.RowKit

theorem ret_int {k : IntKind} {a b : Int} (h : a = b) : Ending.returned (.int k a) = .returned (.int k b) := by rw [h]

theorem pow_le6 (b k : Nat) (hb : 1 ≤ b) (h4 : b ≤ 4) (hk : k ≤ 6) : b ^ k ≤ 4096 :=
 Nat.le_trans (Nat.pow_le_pow_right hb hk) (Nat.le_trans (Nat.pow_le_pow_left h4 6) (by decide))

theorem mul_bd (p d : Nat) (hp : p ≤ 4096) (hd : d ≤ 3) : 0 ≤ (p : Int) * ((d : Int) + 1) ∧ (p : Int) * ((d : Int) + 1) ≤ 16384 := by
 have h : p * (d + 1) ≤ 4096 * 4 := Nat.mul_le_mul hp (by omega)
 have e : (p : Int) * ((d : Int) + 1) = ((p * (d + 1) : Nat) : Int) := by simp
 rw [e]; omega

end Go.Proofs.Ytgimcephbeajlaa

namespace Go.Proofs.Ytgimcephbeajlaa
open Go.RowKit

/-- A sheet: seven numbers. -/
def sv (l : List Int) : Value := .agg (l.map (Value.int .i64)).toArray

theorem list7 {l : List Int} (h : l.length = 7) : ∃ a0 a1 a2 a3 a4 a5 a6, l = [a0, a1, a2, a3, a4, a5, a6] := by
 match l, h with
 | [a0, a1, a2, a3, a4, a5, a6], _ => exact ⟨a0, a1, a2, a3, a4, a5, a6, rfl⟩

end Go.Proofs.Ytgimcephbeajlaa


namespace Go.Proofs.Ytgimcephbeajlaa
open Go.RowKit
open Go.WideMaps (KeyLaw)

theorem laidOut : laidOutB Try.prog = true := by kernel_rfl

/-- Block b is a map with keys of type kt that holds just what g says. -/
def MapIs (P : Program) (kt : TypeId) (w : World) (b : Nat) (g : Value → Option Value) : Prop :=
 ∃ es clock, w.heap[b]? = some (.map es clock) ∧ (∀ e ∈ es.toList, (∃ l, keyOf P kt e.key = some l) ∧ g e.key = some e.val) ∧
  (∀ k v, g k = some v → ∃ e ∈ es.toList, e.key = k) ∧ es.toList.Pairwise (fun x y => x.key ≠ y.key)

theorem MapIs.keep {P : Program} {kt : TypeId} {w w' : World} {b B : Nat} {g : Value → Option Value} (h : MapIs P kt w b g) (hb : Below B w w') (hlt : b < B) : MapIs P kt w' b g := by
 obtain ⟨es, clock, hh, rest⟩ := h
 exact ⟨es, clock, (hb.block b hlt).trans hh, rest⟩

theorem MapIs.lt {P : Program} {kt : TypeId} {w : World} {b : Nat} {g : Value → Option Value} (h : MapIs P kt w b g) : b < w.heap.size := by
 obtain ⟨es, clock, hh, _⟩ := h
 exact (Array.getElem?_eq_some_iff.1 hh).1

theorem MapIs.new (P : Program) (kt : TypeId) (w : World) : MapIs P kt (w.alloc (.map #[] 0)) w.heap.size (fun _ => none) :=
 ⟨#[], 0, by show (w.heap.push _)[w.heap.size]? = _; simp, by simp, by simp, by simp⟩

section
variable {P : Program} {t kt et : TypeId} {w : World} {b : Nat} {g : Value → Option Value}

theorem MapIs.lookup (h : MapIs P kt w b g) (K : KeyLaw P kt) (ht : P.underlying t = some (.map kt et)) {z : Value} (hz : ∀ w, (zeroValue et).run P w = .ok z w) {x : Value} {l : Lit} (hx : keyOf P kt x = some l) :
  (Instr.lookup t (.map (some b)) x true).run P w = .ok (.tuple #[(g x).getD z, .bool (g x).isSome]) w := by
 obtain ⟨es, clock, hb, h1, h2, h3⟩ := h
 rcases K.find w hx es.toList (fun e he => (h1 e he).1) with ⟨f1, f2⟩ | ⟨j, e0, f1, f2, f3⟩
 ·
  have hn : g x = none := by
   cases hg : g x with
   | none => rfl
   | some v => obtain ⟨e, he, hk⟩ := h2 x v hg; exact absurd hk (f2 e he)
  simp [Instr.lookup, run_underlying ht, MapKept.run_getObj_map hb, K.check w _ hx, f1, hz w, hn, Result.andThen]
 ·
  have hs : g x = some e0.val := by rw [← f3]; exact (h1 e0 (List.mem_of_getElem? f2)).2
  simp [Instr.lookup, run_underlying ht, MapKept.run_getObj_map hb, K.check w _ hx, f1, hs, Result.andThen]

open Classical in
theorem MapIs.update (h : MapIs P kt w b g) (K : KeyLaw P kt) (ht : P.underlying t = some (.map kt et)) {x v : Value} {l : Lit} (hx : keyOf P kt x = some l) :
  ∃ w', (Instr.mapUpdate t (.map (some b)) x v).run P w = .ok () w' ∧ MapIs P kt w' b (fun k => if k = x then some v else g k) ∧ w.grownBy w' (some b) := by
 obtain ⟨es, clock, hb, h1, h2, h3⟩ := h
 have hlt : b < w.heap.size := (Array.getElem?_eq_some_iff.1 hb).1
 rcases K.find w hx es.toList (fun e he => (h1 e he).1) with ⟨f1, f2⟩ | ⟨j, e0, f1, f2, f3⟩
 ·
  refine ⟨{ w with heap := w.heap.setIfInBounds b (.map (es.push { key := x, val := v, born := clock }) (clock + 1)) }, ?_, ?_, ?_⟩
  ·
   simp [Instr.mapUpdate, run_underlying ht, MapKept.run_getObj_map hb, K.check w _ hx, f1, Result.andThen, setObj, Sem.run, hb]
  ·
   refine ⟨es.push { key := x, val := v, born := clock }, clock + 1, by simp [hlt], ?_, ?_, ?_⟩
   ·
    intro e he
    rw [Array.toList_push] at he
    rcases List.mem_append.1 he with he | he
    ·
     exact ⟨(h1 e he).1, by simp only []; rw [if_neg (f2 e he)]; exact (h1 e he).2⟩
    ·
     obtain rfl : e = { key := x, val := v, born := clock } := by simpa using he
     exact ⟨⟨l, hx⟩, by simp⟩
   ·
    intro k u hk
    by_cases hkx : k = x
    ·
     exact ⟨{ key := x, val := v, born := clock }, by simp, hkx.symm⟩
    ·
     simp only [] at hk
     rw [if_neg hkx] at hk
     obtain ⟨e, he, hek⟩ := h2 k u hk
     exact ⟨e, by simp [he], hek⟩
   ·
    simp only [Array.toList_push]
    refine List.pairwise_append.2 ⟨h3, by simp, ?_⟩
    intro a ha c hc
    obtain rfl : c = { key := x, val := v, born := clock } := by simpa using hc
    exact f2 a ha
  ·
   refine ⟨rfl, rfl, rfl, by simp, fun k hk hne => ?_⟩
   simp only []
   rw [Array.getElem?_setIfInBounds_ne (by intro e; exact hne (by rw [e]))]
 ·
  obtain ⟨hj, hje⟩ := List.getElem?_eq_some_iff.1 f2
  have hja : es[j]? = some e0 := by rw [← Array.getElem?_toList]; exact f2
  have hstay : (Instr.keyThatStays e0.key x).run P w = .ok x w := by rw [f3]; exact K.stays w hx
  refine ⟨{ w with heap := w.heap.setIfInBounds b (.map (es.modify j fun e => { e with key := x, val := v }) clock) }, ?_, ?_, ?_⟩
  ·
   simp [Instr.mapUpdate, run_underlying ht, MapKept.run_getObj_map hb, K.check w _ hx, f1, Result.andThen, setObj, Sem.run, hb, hja, hstay]
  ·
   have hmem : ∀ e, e ∈ (es.modify j fun e => { e with key := x, val := v }).toList → e.key = x ∧ e.val = v ∨ e ∈ es.toList ∧ e.key ≠ x := by
    intro e he
    rw [Array.toList_modify] at he
    obtain ⟨i, hi⟩ := List.mem_iff_getElem?.1 he
    rw [List.getElem?_modify] at hi
    by_cases hij : j = i
    ·
     subst hij
     rw [f2] at hi
     simp at hi
     left
     rw [← hi]
     exact ⟨rfl, rfl⟩
    ·
     simp [hij] at hi
     right
     rw [← Array.getElem?_toList] at hi
     refine ⟨List.mem_of_getElem? hi, fun hex => ?_⟩
     obtain ⟨hi', hie⟩ := List.getElem?_eq_some_iff.1 hi
     have hp := List.pairwise_iff_getElem.1 h3
     rcases Nat.lt_or_gt_of_ne hij with hlt' | hlt'
     ·
      exact hp j i hj hi' hlt' (by rw [hje, hie, f3, hex])
     ·
      exact hp i j hi' hj hlt' (by rw [hje, hie, f3, hex])
   refine ⟨_, clock, by simp [hlt]; rfl, ?_, ?_, ?_⟩
   ·
    intro e he
    rcases hmem e he with ⟨h4, h5⟩ | ⟨h4, h5⟩
    ·
     exact ⟨⟨l, by rw [h4]; exact hx⟩, by simp [h4, h5]⟩
    ·
     exact ⟨(h1 e h4).1, by simp [h5]; exact (h1 e h4).2⟩
   ·
    intro k u hk
    by_cases hkx : k = x
    ·
     refine ⟨{ e0 with key := x, val := v }, ?_, by simp [hkx]⟩
     rw [Array.toList_modify]
     exact List.mem_iff_getElem?.2 ⟨j, by rw [List.getElem?_modify]; simp [f2]⟩
    ·
     simp only [] at hk
     rw [if_neg hkx] at hk
     obtain ⟨e, he, hek⟩ := h2 k u hk
     obtain ⟨i, hi⟩ := List.mem_iff_getElem?.1 he
     refine ⟨e, ?_, hek⟩
     rw [Array.toList_modify]
     refine List.mem_iff_getElem?.2 ⟨i, ?_⟩
     have hne : j ≠ i := by
      intro hji
      subst hji
      rw [f2] at hi
      cases hi
      exact hkx (by rw [← hek, f3])
     rw [List.getElem?_modify]
     simp [hne, hi]
   ·
    have hkeys : (es.modify j fun e => { e with key := x, val := v }).toList.map MapEntry.key = es.toList.map MapEntry.key := by
     rw [Array.toList_modify]
     refine List.ext_getElem? fun i => ?_
     rw [List.getElem?_map, List.getElem?_map, List.getElem?_modify]
     by_cases hij : j = i
     ·
      subst hij; rw [f2]; simp [f3]
     ·
      simp [hij]
    have h4 : (es.toList.map MapEntry.key).Pairwise (fun a c => a ≠ c) := List.pairwise_map.2 h3
    rw [← hkeys] at h4
    exact List.pairwise_map.1 h4
  ·
   refine ⟨rfl, rfl, rfl, by simp, fun k hk hne => ?_⟩
   simp only []
   rw [Array.getElem?_setIfInBounds_ne (by intro e; exact hne (by rw [e]))]
end

theorem MapIs.lk {P : Program} {t kt et : TypeId} {w : World} {b : Nat} {g : Value → Option Value} (h : MapIs P kt w b g) (K : KeyLaw P kt) (ht : P.underlying t = some (.map kt et)) {z : Value} (hz : ∀ w, (zeroValue et).run P w = .ok z w) {x : Value} {l : Lit} (hx : keyOf P kt x = some l)
  {ops : Array Oper} {rest : List Oper} {o : Oper} {a : Act} {Q : Exit → Act → World → Prop} (hg : o.guard = none) (m y : Operand) (hop : o.op = Op.lookup t m y true) (hm : a.eval m = .map (some b)) (hy : a.eval y = x)
  (hK : wpList P ops Q rest (a.put o.dst (.tuple #[(g x).getD z, .bool (g x).isSome])) w) : wpList P ops Q (o :: rest) a w := by
 refine wpList_plain hg fun K' hK' => ?_
 unfold Oper.wp
 simp [execOp, hop, hm, hy, h.lookup K ht hz hx, Result.andThen]
 exact hK' _ _ hK

open Classical in
theorem MapIs.up {P : Program} {t kt et : TypeId} {w : World} {b : Nat} {g : Value → Option Value} (h : MapIs P kt w b g) (K : KeyLaw P kt) (ht : P.underlying t = some (.map kt et)) {x v : Value} {l : Lit} (hx : keyOf P kt x = some l)
  {ops : Array Oper} {rest : List Oper} {o : Oper} {a : Act} {Q : Exit → Act → World → Prop} (hg : o.guard = none) (m y z : Operand) (hop : o.op = Op.mapUpdate t m y z) (hm : a.eval m = .map (some b)) (hy : a.eval y = x) (hv : a.eval z = v)
  (hK : ∀ w', MapIs P kt w' b (fun k => if k = x then some v else g k) → w.grownBy w' (some b) → wpList P ops Q rest (a.put o.dst undef) w') : wpList P ops Q (o :: rest) a w := by
 refine wpList_plain hg fun K' hK' => ?_
 obtain ⟨w', hrun, r1, r2⟩ := h.update K ht hx (v := v)
 unfold Oper.wp
 simp [execOp, hop, hm, hy, hv, hrun, Result.andThen]
 exact hK' _ _ (hK w' r1 r2)

def Wf (n : Int) : Prop := (Lit.int .i64 n).wf = true
theorem Wf.of {n : Int} (h : -9223372036854775808 ≤ n ∧ n ≤ 9223372036854775807) : Wf n := WalkArith.wf_i64 h

theorem lits3 (d : Nat) (n : Int) (hn : Wf n) : Try.prog.keyLits (d + 1) 3 [.int .i64 n] = some [.int .i64 n] := by
 unfold Program.keyLits
 rw [Try.underlying3]
 simp only []
 rw [if_pos ⟨trivial, hn⟩]

end Go.Proofs.Ytgimcephbeajlaa

namespace Go.Proofs.Ytgimcephbeajlaa
open Go.RowKit

def bv (l : List Bool) : Value := .agg (l.map Value.bool).toArray

/-- A map of counts that says nothing false. -/
def Cnts (l : List Int) (g : Value → Option Value) : Prop := ∀ k v, g k = some v → ∃ x fr tt, k = .agg #[.int .i64 x, .int .i64 fr, .int .i64 tt] ∧ v = .int .i64 (M.count l x fr tt)

theorem Cnts.at_ {l : List Int} {g : Value → Option Value} (h : Cnts l g) {x fr tt : Int} {v : Value} (hg : g (.agg #[.int .i64 x, .int .i64 fr, .int .i64 tt]) = some v) : v = .int .i64 (M.count l x fr tt) := by
 obtain ⟨x', fr', tt', hk, hv⟩ := h _ _ hg
 simp at hk
 obtain ⟨rfl, rfl, rfl⟩ := hk
 exact hv

theorem Below.evr {B : Nat} {a b : World} (h : Ev a b) (hB : B ≤ a.heap.size) : Below B a b := Below.mono h hB

theorem MapIs.same {P : Program} {kt : TypeId} {w w' : World} {b : Nat} {g : Value → Option Value} (h : MapIs P kt w b g) (he : w'.heap[b]? = w.heap[b]?) : MapIs P kt w' b g := by
 obtain ⟨es, clock, hh, rest⟩ := h
 exact ⟨es, clock, he.trans hh, rest⟩

open Classical in
theorem Cnts.put {l : List Int} {g : Value → Option Value} (h : Cnts l g) (x fr tt : Int) :
  Cnts l (fun k => if k = .agg #[.int .i64 x, .int .i64 fr, .int .i64 tt] then some (.int .i64 (M.count l x fr tt)) else g k) := by
 intro k v hk
 simp only [] at hk
 split at hk
 ·
  rename_i e
  exact ⟨x, fr, tt, e, by cases hk; rfl⟩
 ·
  exact h k v hk

end Go.Proofs.Ytgimcephbeajlaa

namespace Go.Proofs.Ytgimcephbeajlaa
open Go.RowKit

def ics (x : Int) : List Value := [.int .i64 x]

theorem Sl.int {w wr : World} {B : Nat} {A : Option Addr} {n c : Nat} {xs : List Int} (h : Sl ics 1 w B A n c xs) (hb : Below B w wr) {k : Nat} (hk : k < n) :
  ∃ b off x, A = some ⟨b, off, none⟩ ∧ b < B ∧ xs[k]? = some x ∧ xs.drop k = x :: xs.drop (k + 1) ∧ wr.cell? ⟨b, off + k, none⟩ = some (.int .i64 x) := by
 obtain ⟨b, off, x, hA, hlt, hx, hd, hc⟩ := h.at_ hb hk
 refine ⟨b, off, x, hA, hlt, hx, hd, ?_⟩
 have := hc 0 _ rfl
 simpa using this

def M.least (a : Int) : List Int → Int
 | [] => a
 | y :: r => M.least (if y < a then y else a) r

def M.most (a : Int) : List Int → Int
 | [] => a
 | y :: r => M.most (if a < y then y else a) r

def M.idx (x : Int) : List Int → Int → Int
 | [], _ => -1
 | y :: r, k => if x = y then k else M.idx x r (k + 1)

set_option maxRecDepth 100000 in
set_option maxHeartbeats 1000000 in
theorem least_c (a : Int) (A : Option Addr) (n c : Nat) (xs : List Int) (w : World) (hs : Sl ics 1 w w.heap.size A n c xs) :
  Calls Try.prog 120 #[.int .i64 a, .slice A n c] w fun e w' => e = .returned (.int .i64 (M.least a xs)) ∧ Ev w w' := by
 have hsm := hs.small
 go_enter Try.func120, Try.ntmps120
 go_wp2
 go_loop [0, 9] (fun m i => ∃ k : Nat, ∃ p : Int, i = .int .i64 k ∧ k ≤ n ∧ m = .int .i64 p ∧ Hid (M.least p (xs.drop k) = M.least a xs)) (fun _ i => n - (intOf i).toNat)
 case atStart => exact ⟨0, a, rfl, by omega, rfl, hid (by simp)⟩
 case round =>
  obtain ⟨k, p, rfl, hk, rfl, hp⟩ := hrel
  by_cases hlt : k < n
  ·
   obtain ⟨b, off, x, rfl, hb, hx, hd, e0⟩ := hs.int (Below.refl _ w) hlt
   have H := hid hd
   clear hd hx
   go_wp2
   go_round
   case rel => exact ⟨k + 1, _, by go_num, by omega, rfl, hid (by rw [← hp.out, H.out]; rfl)⟩
   case measure => simp [intOf]; omega
  ·
   have H := hid (hs.done hlt)
   go_wp2
   go_ret
   exact ⟨ret_int (by rw [← hp.out, H.out]; rfl), Ev.refl _⟩

set_option maxRecDepth 100000 in
set_option maxHeartbeats 1000000 in
theorem most_c (A : Option Addr) (n c : Nat) (x : Int) (xs : List Int) (w : World) (hs : Sl ics 1 w w.heap.size A n c (x :: xs)) :
  Calls Try.prog 121 #[.slice A n c] w fun e w' => e = .returned (.int .i64 (M.most x xs)) ∧ Ev w w' := by
 have hsm := hs.small
 have hn : 0 < n := by have := hs.len; simp at this; omega
 obtain ⟨b, off, x', rfl, hb, hx, hd, e0⟩ := hs.int (Below.refl _ w) hn
 obtain rfl : x = x' := by simpa using hx
 clear hx hd
 simp only [Nat.add_zero] at e0
 have hn1 : ¬ (n : Int) < 1 := by omega
 go_enter Try.func121, Try.ntmps121
 go_wp2
 go_loop [3, 4] (fun m i => ∃ k : Nat, ∃ p : Int, i = .int .i64 k ∧ 1 ≤ k ∧ k ≤ n ∧ m = .int .i64 p ∧ Hid (M.most p ((x :: xs).drop k) = M.most x xs)) (fun _ i => n - (intOf i).toNat)
 case atStart => exact ⟨1, x, rfl, by omega, by omega, rfl, hid (by simp)⟩
 case round =>
  obtain ⟨k, p, rfl, hk1, hk, rfl, hp⟩ := hrel
  by_cases hlt : k < n
  ·
   obtain ⟨b', off', y, hA, hb', hx, hd, e1⟩ := hs.int (Below.refl _ w) hlt
   cases hA
   have H := hid hd
   clear hd hx
   go_wp2
   go_round
   case rel => exact ⟨k + 1, _, by go_num, by omega, by omega, rfl, hid (by rw [← hp.out, H.out]; rfl)⟩
   case measure => simp [intOf]; omega
  ·
   have H := hid (hs.done hlt)
   go_wp2
   go_ret
   exact ⟨ret_int (by rw [← hp.out, H.out]; rfl), Ev.refl _⟩

set_option maxRecDepth 100000 in
set_option maxHeartbeats 1000000 in
theorem idx_c (A : Option Addr) (n c : Nat) (xs : List Int) (v : Int) (w : World) (hs : Sl ics 1 w w.heap.size A n c xs) :
  Calls Try.prog 115 #[.slice A n c, .int .i64 v] w fun e w' => e = .returned (.int .i64 (M.idx v xs 0)) ∧ Ev w w' := by
 have hsm := hs.small
 go_enter Try.func115, Try.ntmps115
 go_wp2
 go_loop [8] (fun i => ∃ k : Nat, i = .int .i64 k ∧ k ≤ n ∧ Hid (M.idx v (xs.drop k) k = M.idx v xs 0)) (fun i => n - (intOf i).toNat)
 case atStart => exact ⟨0, rfl, by omega, hid (by simp)⟩
 case round =>
  obtain ⟨k, rfl, hk, hp⟩ := hrel
  by_cases hlt : k < n
  ·
   obtain ⟨b, off, x, rfl, hb, hx, hd, e0⟩ := hs.int (Below.refl _ w) hlt
   have H := hid hd
   clear hd hx
   by_cases hvx : v = x
   ·
    have hB : (v == x) = true := by simpa using hvx
    have HV := hid hvx
    clear hvx
    go_wp2
    go_ret
    exact ⟨ret_int (by rw [← hp.out, H.out]; simp only [M.idx]; rw [if_pos HV.out]), Ev.refl _⟩
   ·
    have hB : (v == x) = false := by simpa using hvx
    have HV := hid hvx
    clear hvx
    go_wp2
    go_round
    case rel => exact ⟨k + 1, by go_num, by omega, hid (by rw [← hp.out, H.out]; simp only [M.idx]; rw [if_neg HV.out]; simp)⟩
    case measure => simp [intOf]; omega
  ·
   have H := hid (hs.done hlt)
   go_wp2
   go_ret
   exact ⟨ret_int (by rw [← hp.out, H.out]; rfl), Ev.refl _⟩

def M.rises : List Int → Bool
 | x :: y :: r => decide (x < y) && M.rises (y :: r)
 | _ => true

set_option maxRecDepth 100000 in
set_option maxHeartbeats 1000000 in
theorem rises_c (A : Option Addr) (n c : Nat) (xs : List Int) (w : World) (hs : Sl ics 1 w w.heap.size A n c xs) :
  Calls Try.prog 91 #[.slice A n c] w fun e w' => e = .returned (.bool (M.rises xs)) ∧ Ev w w' := by
 have hsm := hs.small
 go_enter Try.func91, Try.ntmps91
 go_wp2
 go_loopw [3] (fun i wr => ∃ k : Nat, i = .int .i64 ((k : Int) + 1) ∧ k ≤ n ∧ Ev w wr ∧ Hid (M.rises (xs.drop k) = M.rises xs)) (fun i _ => n + 1 - (intOf i).toNat)
 case atStart => exact ⟨0, by simp, by omega, Ev.refl _, hid (by simp)⟩
 case round =>
  obtain ⟨k, rfl, hk, hB, hp⟩ := hrel
  by_cases hlt : k + 1 < n
  ·
   obtain ⟨b, off, y, hA1, hb, hx, hd, e1⟩ := hs.int hB hlt
   obtain ⟨b', off', x, hA2, hb', hx', hd', e0⟩ := hs.int hB (show k < n by omega)
   rw [hA1] at hA2
   cases hA2
   subst hA1
   have H := hid (hd'.trans (by rw [hd]))
   have H1 := hid hd
   clear hd hx hd' hx'
   have hk0 : (0 : Int) ≤ (k : Int) := by omega
   have hk1 : (k : Int) < (n : Int) := by omega
   have hk2 : (k : Int) + 1 < (n : Int) := by omega
   have w1 : IntKind.i64.wrap ((k : Int) + 1 - 1) = k := by rw [show (k : Int) + 1 - 1 = k from by omega]; exact IntWalk.i64_in _ (by omega)
   by_cases hxy : x < y
   ·
    have HXY : Hid (decide (x < y) = true) := hid (by simpa using hxy)
    go_wp2
    go_quiet (fail)
    go_wp2
    refine ⟨⟨k + 1, by simp, by omega, hB.drewN _, hid ?_⟩, by simp [intOf]; omega⟩
    rw [← hp.out, H.out, H1.out]
    simp only [M.rises]
    rw [HXY.out, Bool.true_and]
   ·
    have HXY : Hid (decide (x < y) = false) := hid (by simpa using hxy)
    go_wp2
    go_quiet (fail)
    go_wp2
    go_ret
    refine ⟨ret_bool ?_, hB.drewN _⟩
    rw [← hp.out, H.out]
    simp only [M.rises]
    rw [HXY.out, Bool.false_and]
  ·
   have H : Hid (M.rises (xs.drop k) = true) := hid (by
    have hl := hs.len
    have : (xs.drop k).length ≤ 1 := by rw [List.length_drop]; omega
    match xs.drop k, this with
    | [], _ => rfl
    | [_], _ => rfl)
   have hge : ¬ ((k : Int) + 1 < (n : Int)) := by omega
   go_wp2
   go_ret
   exact ⟨ret_bool (by rw [← hp.out, H.out]), hB⟩

end Go.Proofs.Ytgimcephbeajlaa

namespace Go.Proofs.Ytgimcephbeajlaa
open Go.RowKit
open Go.WideMaps (KeyLaw)

theorem lits4 (d : Nat) (b : Bool) : Try.prog.keyLits (d + 1) 4 [.bool b] = some [.bool b] := by
 unfold Program.keyLits
 rw [Try.underlying4]

theorem list5 {l : List Bool} (h : l.length = 5) : ∃ a0 a1 a2 a3 a4, l = [a0, a1, a2, a3, a4] := by
 match l, h with
 | [a0, a1, a2, a3, a4], _ => exact ⟨a0, a1, a2, a3, a4, rfl⟩

theorem bv_inj {x y : List Bool} (h : bv x = bv y) : x = y := by
 have h1 : (x.map Value.bool) = (y.map Value.bool) := by simpa [bv] using h
 exact (List.map_inj_right (fun a b hab => by injection hab)).1 h1

def fcs (l : List Bool) : List Value := l.map Value.bool

def M.idxg {α : Type} (p : α → Bool) : List α → Int → Int
 | [], _ => -1
 | y :: r, k => if p y then k else M.idxg p r (k + 1)

theorem M.idxg_any {α : Type} (p : α → Bool) : ∀ (l : List α) (k : Int), 0 ≤ k → decide (0 ≤ M.idxg p l k) = l.any p
 | [], _, _ => by simp [M.idxg]
 | y :: r, k, hk => by
  unfold M.idxg
  by_cases h : p y = true
  ·
   simp [h, hk]
  ·
   simp [h, M.idxg_any p r (k + 1) (by omega)]

theorem M.idxg_bd {α : Type} (p : α → Bool) : ∀ (l : List α) (k : Int), 0 ≤ k → M.idxg p l k = -1 ∨ 0 ≤ M.idxg p l k
 | [], _, _ => by simp [M.idxg]
 | y :: r, k, hk => by
  unfold M.idxg
  split
  ·
   exact .inr hk
  ·
   exact M.idxg_bd p r (k + 1) (by omega)

theorem ret_decide {a b : Bool} (h : a = b) : Ending.returned (.bool a) = .returned (.bool b) := by rw [h]

end Go.Proofs.Ytgimcephbeajlaa

namespace Go.Proofs.Ytgimcephbeajlaa
open Go.RowKit

def scs (l : List Int) : List Value := l.map (Value.int .i64)

end Go.Proofs.Ytgimcephbeajlaa

namespace Go.Proofs.Ytgimcephbeajlaa
open Go.RowKit

def bcs (x : Bool) : List Value := [.bool x]

theorem Sl.boo {w wr : World} {B : Nat} {A : Option Addr} {n c : Nat} {xs : List Bool} (h : Sl bcs 1 w B A n c xs) (hb : Below B w wr) {k : Nat} (hk : k < n) :
  ∃ b off x, A = some ⟨b, off, none⟩ ∧ b < B ∧ xs[k]? = some x ∧ xs.drop k = x :: xs.drop (k + 1) ∧ wr.cell? ⟨b, off + k, none⟩ = some (.bool x) := by
 obtain ⟨b, off, x, hA, hlt, hx, hd, hc⟩ := h.at_ hb hk
 refine ⟨b, off, x, hA, hlt, hx, hd, ?_⟩
 have := hc 0 _ rfl
 simpa using this

def M.agree1 (e : Nat) (x : List Bool) : Bool := !((x.take e).any fun y => y)

end Go.Proofs.Ytgimcephbeajlaa

namespace Go.Proofs.Ytgimcephbeajlaa
open Go.RowKit

def M.mask (x : List Bool) : List Int → List Bool
 | [] => x
 | i :: r => M.mask (x.set i.toNat false) r
def M.spares1 (l : List Int) (x : List Bool) : Bool := decide (M.mask x l = [false, false, false, false, false])

theorem M.mask_len (x : List Bool) : ∀ l, (M.mask x l).length = x.length
 | [] => rfl
 | i :: r => by unfold M.mask; rw [M.mask_len]; simp

end Go.Proofs.Ytgimcephbeajlaa

namespace Go.Proofs.Ytgimcephbeajlaa
open Go.RowKit

/-- From low to high. -/
def M.isIn (n lo hi : Int) : Bool := decide (lo ≤ n) && decide (n ≤ hi)
/-- A range with numbers from low to high alone, and one at least. -/
def M.within (r : M.Rg) (lo hi : Int) : Bool := decide (lo ≤ r.lo) && (decide (r.lo ≤ r.hi) && decide (r.hi ≤ hi))

set_option maxHeartbeats 400000 in
theorem In_s (n lo hi : Int) (w : World) : Calls Try.prog 54 #[.int .i64 n, .int .i64 lo, .int .i64 hi] w fun e w' => e = .returned (.bool (M.isIn n lo hi)) ∧ w' = w := by
 go_enter Try.func54, Try.ntmps54
 go_wp2
 all_goals (go_ret; exact ⟨ret_bool (by simp only [M.isIn]; first | (simp only [*]; simp; done) | (simp; omega)), rfl⟩)

theorem In_c (n lo hi : Int) (w : World) : Calls Try.prog 54 #[.int .i64 n, .int .i64 lo, .int .i64 hi] w fun e w' => e = .returned (.bool (M.isIn n lo hi)) ∧ Ev w w' :=
 (In_s n lo hi w).mono fun _ _ h => ⟨h.1, by rw [h.2]; exact Ev.refl _⟩

set_option maxHeartbeats 400000 in
theorem Within_c (r : M.Rg) (lo hi : Int) (w : World) : Calls Try.prog 89 #[.agg #[.int .i64 r.lo, .int .i64 r.hi], .int .i64 lo, .int .i64 hi] w fun e w' => e = .returned (.bool (M.within r lo hi)) ∧ Ev w w' := by
 go_enter Try.func89, Try.ntmps89
 go_wp2
 all_goals (go_ret; exact ⟨ret_bool (by simp only [M.within]; first | (simp only [*]; simp; done) | (simp; omega)), Ev.alloc (Ev.refl _) _⟩)

theorem M.upTo_within (r : M.Rg) (l : Int) : M.upTo r l = M.within r 0 l := rfl

end Go.Proofs.Ytgimcephbeajlaa




set_option linter.unusedSimpArgs false
set_option linter.unusedVariables false
namespace Go.Proofs.Ytgimcephbeajlaa
open Go.RowKit

theorem cells3 {W : World} {b : Nat} {t : TypeId} {v0 v1 v2 : Value} (h : W.heap[b]? = some (.cells #[v0, v1, v2] t (0, 0))) :
  W.cell? ⟨b, 0, none⟩ = some v0 ∧ W.cell? ⟨b, 1, none⟩ = some v1 ∧ W.cell? ⟨b, 2, none⟩ = some v2 :=
 ⟨cell_in h 0, cell_in h 1, cell_in h 2⟩

/-- The value of an asking. -/
def askv (p : Nat) (x : Int) (m : Value) : Value := .agg #[.pointer (some ⟨p, 0, none⟩), .int .i64 x, m]

end Go.Proofs.Ytgimcephbeajlaa

namespace Go.Proofs.Ytgimcephbeajlaa
open Go.RowKit

theorem Sl.at7 {w : World} {B : Nat} {A : Option Addr} {n c : Nat} {xs : List (List Int)} (h : Sl scs 7 w B A n c xs) {k : Nat} (hk : k < n) (h7 : ∀ x ∈ xs, x.length = 7) :
  ∃ b off b0 b1 b2 b3 b4 b5 b6, A = some ⟨b, off, none⟩ ∧ b < B ∧ xs[k]? = some [b0, b1, b2, b3, b4, b5, b6] ∧ w.cell? ⟨b, off + k * 7, none⟩ = some (.int .i64 b0) ∧ w.cell? ⟨b, off + k * 7 + 1, none⟩ = some (.int .i64 b1) ∧ w.cell? ⟨b, off + k * 7 + 2, none⟩ = some (.int .i64 b2) ∧ w.cell? ⟨b, off + k * 7 + 3, none⟩ = some (.int .i64 b3) ∧ w.cell? ⟨b, off + k * 7 + 4, none⟩ = some (.int .i64 b4) ∧ w.cell? ⟨b, off + k * 7 + 5, none⟩ = some (.int .i64 b5) ∧ w.cell? ⟨b, off + k * 7 + 6, none⟩ = some (.int .i64 b6) := by
 obtain ⟨b, off, x, hA, hlt, hx, hd, hc⟩ := h.at_ (Below.refl _ _) hk
 obtain ⟨b0, b1, b2, b3, b4, b5, b6, hxx⟩ := list7 (h7 x (List.mem_of_getElem? hx))
 subst hxx
 exact ⟨b, off, b0, b1, b2, b3, b4, b5, b6, hA, hlt, hx, by simpa using hc 0 _ rfl, hc 1 _ rfl, hc 2 _ rfl, hc 3 _ rfl, hc 4 _ rfl, hc 5 _ rfl, hc 6 _ rfl⟩

end Go.Proofs.Ytgimcephbeajlaa

namespace Go.Proofs.Ytgimcephbeajlaa
open Go.RowKit

theorem flat_len {α β : Type} (enc : α → List β) (sz : Nat) : ∀ (xs : List α), (∀ x ∈ xs, (enc x).length = sz) → (xs.flatMap enc).length = xs.length * sz
 | [], _ => by simp
 | x :: r, h => by
  rw [List.flatMap_cons, List.length_append, h x (by simp), flat_len enc sz r (fun y hy => h y (by simp [hy])), List.length_cons, Nat.succ_mul, Nat.add_comm]

theorem flat_get {α β : Type} (enc : α → List β) (sz : Nat) : ∀ (xs : List α) (_ : ∀ x ∈ xs, (enc x).length = sz) (k : Nat) (x : α) (_ : xs[k]? = some x) (j : Nat) (v : β) (_ : (enc x)[j]? = some v), (xs.flatMap enc)[k * sz + j]? = some v
 | [], _, _, _, hx, _, _, _ => by simp at hx
 | y :: r, h, 0, x, hx, j, v, hj => by
  obtain rfl : y = x := by simpa using hx
  have hlt : j < (enc y).length := (List.getElem?_eq_some_iff.1 hj).1
  rw [List.flatMap_cons, Nat.zero_mul, Nat.zero_add, List.getElem?_append_left hlt]
  exact hj
 | y :: r, h, k + 1, x, hx, j, v, hj => by
  have hl := h y (by simp)
  rw [List.flatMap_cons, List.getElem?_append_right (by rw [hl, Nat.succ_mul]; omega), hl, show (k + 1) * sz + j - sz = k * sz + j from by rw [Nat.succ_mul]; omega]
  exact flat_get enc sz r (fun z hz => h z (by simp [hz])) k x (by simpa using hx) j v hj

theorem Sl.of_own {α : Type} {enc : α → List Value} {sz : Nat} {w : World} {base : Nat} {e : TypeId} {v : Value} {n : Nat} {xs : List α} (hsz : 0 < sz) (henc : ∀ x ∈ xs, (enc x).length = sz) (hsm : n ≤ 1099511627776)
  (h : w.ownsRow base e sz v n (xs.flatMap enc)) : ∃ A c, v = .slice A n c ∧ Sl enc sz w w.heap.size A n c xs := by
 have hl : xs.length = n := by
  have h1 := h.1
  rw [flat_len enc sz xs henc] at h1
  exact Nat.eq_of_mul_eq_mul_right hsz h1
 rcases h.2 with ⟨rfl, rfl⟩ | ⟨g, cap, cur, rfl, hbg, hgb, hcap, hmax, hcs, htk⟩
 ·
  exact ⟨none, 0, rfl, hl, by omega, by omega, fun h => by omega⟩
 ·
  refine ⟨_, cap, rfl, hl, hcap, hsm, fun _ => ⟨g, 0, rfl, (Array.getElem?_eq_some_iff.1 hgb).1, fun k x hk j u hj => ?_⟩⟩
  have h2 := h.cells (g := g) rfl (k * sz + j) u (flat_get enc sz xs henc k x hk j u hj)
  rw [Nat.zero_add]
  by_cases h0 : k * sz + j = 0
  ·
   rw [h0] at h2 ⊢; exact h2
  ·
   unfold Addr.add at h2
   rw [if_neg h0] at h2
   simpa using h2

theorem Ev.grown {a b c : World} (h : Ev a b) {row : Option Nat} (hg : b.grownBy c row) (hr : ∀ k, row = some k → a.heap.size ≤ k) : Ev a c :=
 Below.grown h hg h.size hr

theorem info3 : (Try.prog.info? 3).map (fun i => (i.zero, i.size, i.bytes)) = some (some (.int .i64 0), 1, 8) := by kernel_rfl

theorem news_in {w : World} {b : Nat} {cs : Array Value} {t : TypeId} (h : w.heap[b]? = some (.cells cs t (0, 0))) : ∀ (j : Nat) (u : Value), cs.toList[j]? = some u → w.cell? ((⟨b, 0, none⟩ : Addr).add j) = some u := by
 intro j u hj
 have : w.cell? ⟨b, j, none⟩ = some u := by rw [cell_in h j, ← Array.getElem?_toList]; exact hj
 unfold Addr.add
 split
 ·
  rename_i h0; subst h0; exact this
 ·
  simpa using this

def M.agreeing (xs : List (List Int)) (row : Nat) (said : Int) : List (List Int) := xs.filter fun t => t.getD row 0 == said

end Go.Proofs.Ytgimcephbeajlaa

namespace Go.Proofs.Ytgimcephbeajlaa
open Go.RowKit

def M.blank : List Int := [-2, -2, -2, -2, -2, -2, -2]
def M.keep (s : List Int) : List Int → List Int → List Int
 | k, [] => k
 | k, r :: rest => M.keep s (k.set r.toNat (s.getD r.toNat 0)) rest
def M.kept (s rows : List Int) : List Int := M.keep s M.blank rows

theorem M.keep_len (s : List Int) : ∀ (rows k : List Int), (M.keep s k rows).length = k.length
 | [], _ => rfl
 | r :: rest, k => by unfold M.keep; rw [M.keep_len s rest]; simp

theorem getD7 {s : List Int} (h : s.length = 7) {r : Nat} (hr : r ≤ 6) : s[r]? = some (s.getD r 0) := by
 rw [List.getD_eq_getElem?_getD, List.getElem?_eq_getElem (by omega)]; rfl

end Go.Proofs.Ytgimcephbeajlaa

namespace Go.Proofs.Ytgimcephbeajlaa
open Go.RowKit

theorem frz7 {W : World} {b : Nat} {cs : Array Value} {t : TypeId} (h : W.heap[b]? = some (.cells cs t (0, 0))) : W.frozen? ⟨b, 0, none⟩ = false ∧ W.frozen? ⟨b, 1, none⟩ = false ∧ W.frozen? ⟨b, 2, none⟩ = false ∧ W.frozen? ⟨b, 3, none⟩ = false ∧ W.frozen? ⟨b, 4, none⟩ = false ∧ W.frozen? ⟨b, 5, none⟩ = false ∧ W.frozen? ⟨b, 6, none⟩ = false :=
 ⟨frozen_in h 0, frozen_in h 1, frozen_in h 2, frozen_in h 3, frozen_in h 4, frozen_in h 5, frozen_in h 6⟩

theorem set7 {W : World} {b : Nat} {t : TypeId} {z0 z1 z2 z3 z4 z5 z6 v0 v1 v2 v3 v4 v5 v6 : Value} (h : W.heap[b]? = some (.cells #[z0, z1, z2, z3, z4, z5, z6] t (0, 0))) :
  (((((((W.setCell ⟨b, 0, none⟩ v0).setCell ⟨b, 1, none⟩ v1).setCell ⟨b, 2, none⟩ v2).setCell ⟨b, 3, none⟩ v3).setCell ⟨b, 4, none⟩ v4).setCell ⟨b, 5, none⟩ v5).setCell ⟨b, 6, none⟩ v6).heap[b]? = some (.cells #[v0, v1, v2, v3, v4, v5, v6] t (0, 0)) := by
 have h1 := set_heap_same (j := 0) (v := v0) h
 have h2 := set_heap_same (j := 1) (v := v1) h1
 have h3 := set_heap_same (j := 2) (v := v2) h2
 have h4 := set_heap_same (j := 3) (v := v3) h3
 have h5 := set_heap_same (j := 4) (v := v4) h4
 have h6 := set_heap_same (j := 5) (v := v5) h5
 have h7 := set_heap_same (j := 6) (v := v6) h6
 rw [h7]
 simp

theorem sv_inj {x y : List Int} (h : sv x = sv y) : x = y := by
 have h1 : (x.map (Value.int .i64)) = (y.map (Value.int .i64)) := by simpa [sv] using h
 exact (List.map_inj_right (fun a b hab => by injection hab)).1 h1

theorem kept_len (t rows : List Int) : (M.kept t rows).length = 7 := by unfold M.kept; rw [M.keep_len]; rfl

theorem keep_wf (s : List Int) (hs : ∀ x ∈ s, Wf x) : ∀ (rows k : List Int), (∀ x ∈ k, Wf x) → ∀ x ∈ M.keep s k rows, Wf x
 | [], _, hk => hk
 | r :: rest, k, hk => by
  unfold M.keep
  refine keep_wf s hs rest _ fun x hx => ?_
  rcases List.mem_or_eq_of_mem_set hx with hx | hx
  ·
   exact hk x hx
  ·
   rw [hx, List.getD_eq_getElem?_getD]
   cases hg : s[r.toNat]? with
   | none => exact Wf.of (by simp)
   | some y => exact hs y (List.mem_of_getElem? hg)

theorem kept_wf {s : List Int} (hs : ∀ x ∈ s, Wf x) (rows : List Int) : ∀ x ∈ M.kept s rows, Wf x :=
 keep_wf s hs rows _ (by intro x hx; simp [M.blank] at hx; subst hx; exact Wf.of (by omega))

end Go.Proofs.Ytgimcephbeajlaa

namespace Go.Proofs.Ytgimcephbeajlaa
open Go.RowKit

theorem _root_.Go.World.ownsRow.ev {a b : World} {base : Nat} {e : TypeId} {size : Nat} {v : Value} {n : Nat} {xs : List Value} (h : a.ownsRow base e size v n xs) (hb : Ev a b) : b.ownsRow base e size v n xs := by
 refine ⟨h.1, ?_⟩
 rcases h.2 with hn | ⟨g, cap, cur, rfl, hbg, hgg, rest⟩
 ·
  exact .inl hn
 ·
  exact .inr ⟨g, cap, cur, rfl, hbg, hb.heap hgg, rest⟩

theorem Sl.tail {α : Type} {enc : α → List Value} {sz : Nat} {w : World} {B : Nat} {b off n c : Nat} {x : α} {xs : List α}
  (h : Sl enc sz w B (some ⟨b, off, none⟩) (n + 1) c (x :: xs)) : Sl enc sz w B (some ⟨b, off + sz, none⟩) n (c - 1) xs := by
 refine ⟨by have := h.len; simpa using this, by have := h.cap; omega, by have := h.small; omega, fun hn => ?_⟩
 obtain ⟨b', off', hA, hlt, hc⟩ := h.cells (by omega)
 simp only [Option.some.injEq, Addr.mk.injEq, and_true] at hA
 obtain ⟨rfl, rfl⟩ := hA
 refine ⟨b, off + sz, rfl, hlt, fun k y hk j v hj => ?_⟩
 have := hc (k + 1) y (by simpa using hk) j v hj
 rw [show off + sz + k * sz + j = off + (k + 1) * sz + j from by rw [Nat.succ_mul]; omega]
 exact this

theorem step_append_own {P : Program} {w : World} {ops : Array Oper} {o : Oper} {a : Act} {K : Act → World → Prop} {Q : Exit → Act → World → Prop} {E : Prop} (hgd : o.guard = none) (s x : Operand) (t : TypeId)
  (ho : o.op = .call { callee := .builtin .append, args := #[s, x], argTypes := #[t, t] })
  (base : Nat) (e : TypeId) (i : TypeInfo) (z : Value) (size bytes : Nat) (ht : P.underlying t = some (.slice e)) (hi : P.info? e = some i) (hz : i.zero = some z)
  (hsize : i.size = size) (hby : i.bytes = bytes) (hzs : z.cells.size = size) (hsz : 0 < size)
  (v : Value) (n : Nat) (xs : List Value) (hs : a.eval s = v) (hown : w.ownsRow base e size v n xs)
  (ad : Addr) (m c : Nat) (news : List Value) (hx : a.eval x = .slice (some ad) m c) (hl : news.length = m * size) (hnews : ∀ j u, news[j]? = some u → w.cell? (ad.add j) = some u) (h1 : ∀ u ∈ news, u.oneCell' = true)
  (h63 : n + m ≤ maxLen) (hbytes : (n + m) * bytes ≤ 140737488355328) (hbase : base ≤ w.heap.size)
  (h : ∀ v' w', w'.ownsRow base e size v' (n + m) (xs ++ news) → w.grownBy w' v.ownBlock → (v' = .slice none 0 0 ↔ v = .slice none 0 0 ∧ m = 0) → K (a.put o.dst v') w') :
  if Region.wanted o (yielded ops a.tmps) = true then Oper.wp P o a w K Q else E := by
 rw [if_pos (by simp [Region.wanted, hgd])]
 exact wp_append_own w s x t ho base e i z size bytes ht hi hz hsize hby hzs hsz v n xs hs hown ad m c news hx hl hnews h1 h63 hbytes hbase h

theorem tail1 {w : World} {B b off m d : Nat} {x : Int} {r : List Int} (h : Sl ics 1 w B (some ⟨b, off, none⟩) (m + 1) d (x :: r)) :
  ∃ T, (∀ wx, (Instr.slice 25 (.slice (some ⟨b, off, none⟩) (m + 1) d) (some (.int .i64 1)) none none).run Try.prog wx = .ok (.slice T m (d - 1)) wx) ∧ (∀ wx, (Instr.sliceAt 25 (.slice (some ⟨b, off, none⟩) (m + 1) d) (some (.int .i64 1)) none none).run Try.prog wx = .ok (.slice T m (d - 1)) wx) ∧ Sl ics 1 w B T m (d - 1) r := by
 have hcap := h.cap
 have he : Try.prog.elem 25 = 3 := by kernel_rfl
 have hu : Try.prog.underlying 25 = some (.slice (Try.prog.elem 25)) := by rw [he]; exact Try.underlying25
 have hr : ∀ wx, (Instr.slice 25 (.slice (some ⟨b, off, none⟩) (m + 1) d) (some (.int .i64 1)) none none).run Try.prog wx = .ok (.slice (if d = 1 then some ⟨b, off, none⟩ else some ⟨b, off + 1, none⟩) m (d - 1)) wx := by
  intro wx
  rw [run_slice_l wx 25 _ _ _ hu .i64 1 (by omega) (by omega), he, Try.sizeOf3]
  simp only [Result.andThen_ok, sliced]
  congr 1
 refine ⟨_, hr, fun wx => ?_, ?_⟩
 ·
  rw [run_sliceAt_slice wx 25 _ _ _ _ hu]; exact hr wx
 ·
  have := h.tail
  by_cases h1 : d = 1
  ·
   exact ⟨this.len, this.cap, this.small, fun hm => by omega⟩
  ·
   rw [if_neg h1]; exact this

end Go.Proofs.Ytgimcephbeajlaa

namespace Go.Proofs.Ytgimcephbeajlaa
open Go.RowKit

def M.agreeAll (e : Nat) (fs : List (List Bool)) : Bool := fs.any (M.agree1 e)
def M.sparesAll (l : List Int) (fs : List (List Bool)) : Bool := fs.any (M.spares1 l)

def ptrInt (w : World) (u : Value) : Int := match u with
 | .pointer (some a) => (match w.cell? a with
  | some v => intOf v
  | none => 0)
 | _ => 0
theorem ptrInt_of {w : World} {a : Addr} {k : IntKind} {x : Int} (h : w.cell? a = some (.int k x)) : ptrInt w (.pointer (some a)) = x := by
 simp [ptrInt, h, intOf]

def M.whoF (row : Int) (ts : List (List Int)) (x : Int) : Bool := ts.any fun t => t.getD row.toNat 0 == x
def M.whoFrom (row : Int) (ts : List (List Int)) : Nat → Nat → List Int
 | _, 0 => []
 | k, j + 1 => (if M.whoF row ts ((k : Int) - 1) then [(k : Int) - 1] else []) ++ M.whoFrom row ts (k + 1) j

end Go.Proofs.Ytgimcephbeajlaa

namespace Go.Proofs.Ytgimcephbeajlaa
open Go.RowKit

/-- All blocks but those from A to B lie as they lay. -/
structure Bar (A B : Nat) (X Y : World) : Prop where
 os : Y.os = X.os
 tape : Y.tape = X.tape
 output : Y.output = X.output
 size : X.heap.size ≤ Y.heap.size
 block : ∀ k, k < X.heap.size → ¬ (A ≤ k ∧ k < B) → Y.heap[k]? = X.heap[k]?

theorem Bar.refl (A B : Nat) (X : World) : Bar A B X X := ⟨rfl, rfl, rfl, Nat.le_refl _, fun _ _ _ => rfl⟩
theorem Bar.trans {A B : Nat} {X Y Z : World} (h : Bar A B X Y) (k : Bar A B Y Z) : Bar A B X Z :=
 ⟨k.os.trans h.os, k.tape.trans h.tape, k.output.trans h.output, Nat.le_trans h.size k.size, fun i hi hn => (k.block i (Nat.lt_of_lt_of_le hi h.size) hn).trans (h.block i hi hn)⟩
theorem Bar.wider {A A' B : Nat} {X Y : World} (h : Bar A B X Y) (hA : A' ≤ A) : Bar A' B X Y := ⟨h.os, h.tape, h.output, h.size, fun k hk hn => h.block k hk (by omega)⟩
theorem Bar.ev {A B : Nat} {X Y : World} (h : Ev X Y) : Bar A B X Y := ⟨h.os, h.tape, h.output, h.size, fun k hk _ => h.block k hk⟩
theorem Bar.setCell {A B : Nat} {X : World} {p : Addr} (v : Value) (h1 : A ≤ p.block) (h2 : p.block < B) : Bar A B X (X.setCell p v) :=
 ⟨rfl, rfl, rfl, by simp [World.setCell], fun k _ hn => Below.heap_setCell _ _ _ _ (by rintro rfl; exact hn ⟨h1, h2⟩)⟩
theorem Bar.putObj {A B : Nat} {X : World} {l : Nat} (o : Obj) (h1 : A ≤ l) (h2 : l < B) : Bar A B X (X.putObj l o) :=
 ⟨rfl, rfl, rfl, by simp, fun k _ hn => World.putObj_heap_other (by rintro rfl; exact hn ⟨h1, h2⟩)⟩
theorem Bar.below {A B n : Nat} {X Y : World} (h : Bar A B X Y) (hn : n ≤ A) (hx : n ≤ X.heap.size) : Below n X Y :=
 ⟨h.os, h.tape, h.output, h.size, fun k hk => h.block k (by omega) (by omega)⟩

/-- What a caller says between two rounds outlasts whatever the iterator does with blocks of its own. -/
def Abides {β : Type} (A : Nat) (I : Nat → β → World → Prop) : Prop := ∀ B s X Y, A ≤ B → I B s X → Bar A B X Y → I B s Y

/-- What a round keeps for the iterator: the iterator's own blocks, and those that it reads. -/
structure Kept (R : Nat → Prop) (A B : Nat) (X Y : World) : Prop where
 size : X.heap.size ≤ Y.heap.size
 block : ∀ k, k < X.heap.size → (R k ∨ (A ≤ k ∧ k < B)) → Y.heap[k]? = X.heap[k]?

theorem Kept.trans {R : Nat → Prop} {A B : Nat} {X Y Z : World} (h : Kept R A B X Y) (k : Kept R A B Y Z) : Kept R A B X Z :=
 ⟨Nat.le_trans h.size k.size, fun i hi hn => (k.block i (Nat.lt_of_lt_of_le hi h.size) hn).trans (h.block i hi hn)⟩

/-- The contract of an iterator that hands over the list xs: from a world in which it lays its own blocks (up to B). -/
def SeqX {α : Type} (F : Fence) (n : Nat) (P : Program) (g : Nat) (lb : Array Value) (encs : Nat → α → Array Value) (Hx : Nat → Nat → α → World → Prop) (R : Nat → Prop) (xs : List α) (w : World) : Prop :=
 ∀ (l : Nat) (J Jx : Nat → List α → World → Prop) (W : World), Below w.heap.size w W → Abides W.heap.size J → Abides W.heap.size Jx →
  (∀ B pre x W1, W.heap.size ≤ B → B ≤ W1.heap.size → J B pre W1 → Hx W.heap.size B x W1 → pre ++ [x] <+: xs → YieldAt F (n - 1) P l (encs W.heap.size x) W1 fun e W' =>
   (e = .returned (.bool true) ∧ J B (pre ++ [x]) W' ∧ Kept R W.heap.size B W1 W') ∨ (e = .returned (.bool false) ∧ Jx B (pre ++ [x]) W')) →
  (∀ W', Ev W W' → J W'.heap.size [] W') →
  CallsIn F n P g (#[.func (.yield l) #[] #[]] ++ lb) W fun e W' => (∃ v, e = .returned v) ∧ ∃ B, W.heap.size ≤ B ∧ (J B xs W' ∨ ∃ pre, pre <+: xs ∧ Jx B pre W')

/-- How a round's body may end. -/
def postX {α : Type} (R : Nat → Prop) (A B : Nat) (I : Nat → List α → World → Prop) (Ix : Nat → Code → List α → World → Prop) (xs : List α) (W : World) : Exit → Act → World → Prop
 | .normal, _, W' => Kept R A B W W' ∧ I B xs W'
 | .ret, _, W' => Kept (fun _ => False) A B W W' ∧ Ix B .ret xs W'
 | .exit id, _, W' => Kept (fun _ => False) A B W W' ∧ Ix B (.exit id) xs W'
 | .goto t, _, W' => Kept (fun _ => False) A B W W' ∧ Ix B (.goto t) xs W'
 | .panic _, _, _ => False
 | .outgrown, _, _ => False

theorem rangeX {F : Fence} {n : Nat} {P : Program} {α : Type} {g : Operand} {ps : Array Tmp} {assign body : Code} {Q : Exit → Act → World → Prop} {a : Act} {w : World}
  (hro : F.round = none) (h1 : 1 ≤ n) {gf : Nat} {lb : Array Value} (hg : a.eval g = .func (.func gf) #[] lb) (hFg : F.fn gf) (eg : ∀ args w, (callFunc gf args).run P w = .ok (.enter gf args) w)
  {encs : Nat → α → Array Value} {Hx : Nat → Nat → α → World → Prop} {R : Nat → Prop} {xs : List α} {w0 : World} (hseq : SeqX F (n - 1) P gf lb encs Hx R xs w0) (hb0 : Below w0.heap.size w0 w) (hR : ∀ k, R k → k < w.heap.size) (hps : ∀ x, (encs (w.heap.size + 2) x).size = ps.size)
  (hHx : ∀ A B x X Y, Hx A B x X → (∀ k, A ≤ k → k < B → Y.heap[k]? = X.heap[k]?) → Hx A B x Y)
  (I : Nat → List α → World → Prop) (Ix : Nat → Code → List α → World → Prop) (Ax : Nat → α → Act → World → Prop)
  (hI : Abides w.heap.size I) (hIx : ∀ c, Abides w.heap.size (fun B => Ix B c)) (hAx : ∀ a', Abides w.heap.size (fun B x => Ax B x a'))
  (h0 : ∀ W', Ev w W' → I W'.heap.size [] W')
  (hassign : ∀ (l B : Nat) (pre : List α) (x : α) (W : World) (K : Act → World → Prop), w.heap.size + 2 ≤ B → B ≤ W.heap.size → I B pre W → Hx (w.heap.size + 2) B x W → (∀ a' W', Ev W W' → Ax B x a' W' → K a' W') →
   assign.wpIn (F.inRound l) (n - 1 - 1) P (Exit.then K (fun _ _ _ => False)) { tmps := (ps.zip (encs (w.heap.size + 2) x)).foldl (fun t (p, v) => t.setIfInBounds p v) a.tmps, defers := [] } W)
  (hbody : ∀ (l B : Nat) (pre : List α) (x : α) (a' : Act) (W : World), w.heap.size + 2 ≤ B → B ≤ W.heap.size → I B pre W → Ax B x a' W → Hx (w.heap.size + 2) B x W → pre ++ [x] <+: xs → body.wpIn (F.inRound l) (n - 1 - 1) P (postX R w.heap.size B I Ix (pre ++ [x]) W) a' W)
  (hdone : ∀ (B : Nat) (W : World), w.heap.size + 2 ≤ B → I B xs W → W.heap[w.heap.size]? = some (.deferred (some [])) → Q .normal { a with defers := { target := .collected w.heap.size, args := #[] } :: a.defers } W)
  (hstop : ∀ (B : Nat) (c : Code) (pre : List α) (W : World), w.heap.size + 2 ≤ B → pre <+: xs → Ix B c pre W → W.heap[w.heap.size]? = some (.deferred (some [])) → c.wpIn F n P Q { a with defers := { target := .collected w.heap.size, args := #[] } :: a.defers } W) :
  (Code.rangeFunc g ps assign body).wpIn F n P Q a w := by
 refine wpIn_rangeFunc fun fn hfn => ?_
 rw [hro]
 obtain ⟨rec, hrec⟩ : ∃ rec : LoopState → Option Code → Loop, rec = fun st pe => { state := st, pending := pe, fn, tmps := a.tmps, params := ps, assign, body, defers := w.heap.size } := ⟨_, rfl⟩
 obtain ⟨V, hV⟩ : ∃ V, (w.alloc (.deferred (some []))).alloc (.loop (rec .ready none)) = V := ⟨_, rfl⟩
 have hVe : Ev w V := by rw [← hV]; exact Ev.alloc (Ev.alloc (Ev.refl _) _) _
 have hal := alloc2 w (.deferred (some [])) (.loop (rec .ready none))
 rw [hV] at hal
 obtain ⟨hD, hL, hVs⟩ := hal
 refine ⟨w.heap.size + 1, [{ target := .collected w.heap.size, args := #[] }], V, { target := .fn (.func gf) lb, args := #[.func (.yield (w.heap.size + 1)) #[] #[]] }, V, gf,
  #[.func (.yield (w.heap.size + 1)) #[] #[]] ++ lb, V, ?_, ?_, ?_, ?_, fun _ => h1, ?_⟩
 ·
  rw [← hV, hrec]; exact run_enterLoop_outer _ _ _ _ _
 ·
  simp only [resolve, hg]
  simp [go_sem]
 ·
  intro f' hf'; simp [Target.leads] at hf'; subst hf'; exact hFg
 ·
  simp [invoke, go_sem, eg]
 have out : ∀ {B : Nat} {X Y : World}, V.heap.size ≤ B → Bar V.heap.size B X Y → Bar w.heap.size B X Y := fun _ h => h.wider (by omega)
 have keep : ∀ {B k : Nat} {X Y : World} {o : Obj}, Bar V.heap.size B X Y → k < V.heap.size → X.heap[k]? = some o → Y.heap[k]? = some o := fun h hk ho => (h.block _ (Array.getElem?_eq_some_iff.1 ho).1 (by omega)).trans ho
 refine (hseq (w.heap.size + 1)
  (fun B pre W => I B pre W ∧ W.heap[w.heap.size + 1]? = some (.loop (rec .ready none)) ∧ W.heap[w.heap.size]? = some (.deferred (some [])))
  (fun B pre W => ∃ c, Ix B c pre W ∧ W.heap[w.heap.size + 1]? = some (.loop (rec .done (some c))) ∧ W.heap[w.heap.size]? = some (.deferred (some [])))
  V (hb0.trans (Below.evr hVe hb0.size))
  (fun B s X Y hB ⟨h, hl, hd⟩ hb => ⟨hI B s X Y (by omega) h (out hB hb), keep hb (by omega) hl, keep hb (by omega) hd⟩)
  (fun B s X Y hB ⟨c, h, hl, hd⟩ hb => ⟨c, hIx c B s X Y (by omega) h (out hB hb), keep hb (by omega) hl, keep hb (by omega) hd⟩)
  ?_ (fun W' hW' => ⟨h0 W' (hVe.trans hW'), hW'.heap hL, hW'.heap hD⟩)).mono ?_
 ·
  rintro B pre x W hB hBW ⟨hi, hl, hd⟩ hhx hpre
  rw [hVs] at hhx ⊢
  have hy := run_yield (P := P) (args := encs (w.heap.size + 2) x) hl (by rw [hrec]; exact hps x)
  rw [hrec] at hy
  refine ⟨fn, _, assign, body, hy, roundIn_of_wpIn hfn (hassign _ B pre x W _ (by omega) hBW hi hhx ?_)⟩
  intro a' Wa hEa hax
  have hia := hI B pre W Wa (by omega) hi (Bar.ev hEa)
  have hla := hEa.heap hl
  have hda := hEa.heap hd
  have hlt := (Array.getElem?_eq_some_iff.1 hla).1
  refine ⟨_, run_beginRound hla (by rw [hrec]), ?_⟩
  generalize hWb : Wa.putObj (w.heap.size + 1) (.loop { rec .ready none with state := .busy }) = Wb
  have hbb : Bar w.heap.size B Wa Wb := by rw [← hWb]; exact Bar.putObj _ (by omega) (by omega)
  have hlb : Wb.heap[w.heap.size + 1]? = some (.loop { rec .ready none with state := .busy }) := by rw [← hWb]; exact World.putObj_heap_same hlt
  have hdb : Wb.heap[w.heap.size]? = some (.deferred (some [])) := by rw [← hWb]; exact (World.putObj_heap_other (by omega)).trans hda
  have hsb : Wb.heap.size = Wa.heap.size := by rw [← hWb]; simp
  have hoth : ∀ k, k ≠ w.heap.size + 1 → Wb.heap[k]? = Wa.heap[k]? := fun k hk => by rw [← hWb]; exact World.putObj_heap_other hk
  refine wpIn_mono (hbody _ B pre x a' Wb (by omega) (by have := hEa.size; omega) (hI B pre _ _ (by omega) hia hbb) (hAx a' B x _ _ (by omega) hax hbb) (hHx _ _ _ _ _ hhx (fun k h1 h2 => (hoth k (by omega)).trans (hEa.block k (by omega)))) hpre) ?_
  have fin : ∀ (R' : Nat → Prop) (jump : Option Code) (W3 : World), Kept R' w.heap.size B Wb W3 → ∃ W4, W4 = W3.putObj (w.heap.size + 1) (.loop (rec (if jump.isNone then .ready else .done) jump)) ∧
    (Instr.endRound (w.heap.size + 1) jump).run P W3 = .ok (.bool jump.isNone) W4 ∧ Bar w.heap.size B W3 W4 ∧
    W4.heap[w.heap.size + 1]? = some (.loop (rec (if jump.isNone then .ready else .done) jump)) ∧ W4.heap[w.heap.size]? = some (.deferred (some [])) := fun R' jump W3 hk3 => by
   have hl3 : W3.heap[w.heap.size + 1]? = some (.loop { rec .ready none with state := .busy }) := (hk3.block _ (by omega) (.inr (by omega))).trans hlb
   have hd3 : W3.heap[w.heap.size]? = some (.deferred (some [])) := (hk3.block _ (by omega) (.inr (by omega))).trans hdb
   have he := run_endRound (P := P) jump hl3
   rw [hrec] at he ⊢
   exact ⟨_, rfl, he, Bar.putObj _ (by omega) (by omega), World.putObj_heap_same (Array.getElem?_eq_some_iff.1 hl3).1, (World.putObj_heap_other (by omega)).trans hd3⟩
  rintro e a3 W3 hp
  cases e with
  | normal =>
   obtain ⟨hk3, hi3⟩ := hp
   obtain ⟨W4, hW4, hr, hb4, hl4, hd4⟩ := fin R none W3 hk3
   refine ⟨_, _, hr, .inl ⟨rfl, ⟨hI _ _ _ _ (by omega) hi3 hb4, hl4, hd4⟩, ⟨?_, fun k hk hor => ?_⟩⟩⟩
   ·
    have := hb4.size; have := hk3.size; have := hEa.size; omega
   ·
    have hk1 : k ≠ w.heap.size + 1 := by
     rcases hor with hr | hr
     ·
      have := hR k hr; omega
     ·
      omega
    have hkk : R k ∨ (w.heap.size ≤ k ∧ k < B) := by
     rcases hor with hr | hr
     ·
      exact .inl hr
     ·
      exact .inr (by omega)
    rw [hW4, World.putObj_heap_other hk1, hk3.block k (by have := hEa.size; omega) hkk, hoth k hk1]
    exact hEa.block k hk
  | ret =>
   obtain ⟨hk3, hi3⟩ := hp
   obtain ⟨W4, _, hr, hb4, hl4, hd4⟩ := fin _ (some .ret) W3 hk3
   exact ⟨_, _, hr, .inr ⟨rfl, .ret, hIx _ _ _ _ _ (by omega) hi3 hb4, hl4, hd4⟩⟩
  | exit id =>
   obtain ⟨hk3, hi3⟩ := hp
   obtain ⟨W4, _, hr, hb4, hl4, hd4⟩ := fin _ (some (.exit id)) W3 hk3
   exact ⟨_, _, hr, .inr ⟨rfl, .exit id, hIx _ _ _ _ _ (by omega) hi3 hb4, hl4, hd4⟩⟩
  | goto t =>
   obtain ⟨hk3, hi3⟩ := hp
   obtain ⟨W4, _, hr, hb4, hl4, hd4⟩ := fin _ (some (.goto t)) W3 hk3
   exact ⟨_, _, hr, .inr ⟨rfl, .goto t, hIx _ _ _ _ _ (by omega) hi3 hb4, hl4, hd4⟩⟩
  | panic ch => exact hp.elim
  | outgrown => exact hp.elim
 ·
  rintro e W2 ⟨⟨v, rfl⟩, B, hB, ⟨hi, hl, hd⟩ | ⟨pre, hpre, c, hi, hl, hd⟩⟩
  ·
   exact ⟨none, _, by have := run_endLoop (P := P) hl (by rw [hrec]; simp); rw [hrec] at this; exact this, hdone B _ (by omega) (hI _ _ _ _ (by omega) hi (Bar.putObj _ (by omega) (by omega))) ((World.putObj_heap_other (by omega)).trans hd)⟩
  ·
   exact ⟨some c, _, by have := run_endLoop (P := P) hl (by rw [hrec]; simp); rw [hrec] at this; exact this, hstop B c pre _ (by omega) hpre (hIx _ _ _ _ _ (by omega) hi (Bar.putObj _ (by omega) (by omega))) ((World.putObj_heap_other (by omega)).trans hd)⟩

end Go.Proofs.Ytgimcephbeajlaa

namespace Go.Proofs.Ytgimcephbeajlaa
open Go.RowKit Go.Shelf
attribute [local go_sem] Oper.semAt_some

def M.incr (sz : Nat) : Nat → Nat → List (List Int)
 | 0, _ => [[]]
 | j + 1, frm => (List.range' frm (sz - frm)).flatMap fun (k : Nat) => (M.incr sz j (k + 1)).map ((k : Int) :: ·)

/-- The cells of the iterator over rising lists: its own four blocks from A on, and the two numbers that it has captured. -/
structure IncS (A pl ps L sz l : Nat) (y : List Int) (W : World) : Prop where
 len : W.heap[pl]? = some (.cells #[.int .i64 L] 3 (0, 0))
 siz : W.heap[ps]? = some (.cells #[.int .i64 sz] 3 (0, 0))
 yld : W.heap[A]? = some (.cells #[.func (.yield l) #[] #[]] 107 (0, 0))
 arr : W.heap[A + 1]? = some (.cells (y.map (Value.int .i64)).toArray 3 (0, 0))
 lst : W.heap[A + 2]? = some (.cells #[.slice (some ⟨A + 1, 0, none⟩) L L] 25 (0, 0))
 cho : W.heap[A + 3]? = some (.cells #[.func (.func 132) #[] #[.pointer (some ⟨pl, 0, none⟩), .pointer (some ⟨A, 0, none⟩), .pointer (some ⟨A + 2, 0, none⟩), .pointer (some ⟨ps, 0, none⟩), .pointer (some ⟨A + 3, 0, none⟩)]] 171 (0, 0))
 ylen : y.length = L

theorem IncS.kept {A pl ps L sz l : Nat} {y : List Int} {X Y : World} {R : Nat → Prop} {B : Nat} (h : IncS A pl ps L sz l y X) (hk : Kept R A B X Y) (h1 : R pl) (h2 : R ps) (hB : A + 4 ≤ B) : IncS A pl ps L sz l y Y :=
 have g : ∀ {k : Nat} {o : Obj}, X.heap[k]? = some o → (R k ∨ (A ≤ k ∧ k < B)) → Y.heap[k]? = some o := fun h0 hor => (hk.block _ (heap_lt h0) hor).trans h0
 ⟨g h.len (.inl h1), g h.siz (.inl h2), g h.yld (.inr (by omega)), g h.arr (.inr (by omega)), g h.lst (.inr (by omega)), g h.cho (.inr (by omega)), h.ylen⟩

def incE (L : Nat) (A : Nat) (_ : List Int) : Array Value := #[.slice (some ⟨A + 1, 0, none⟩) L L]
def incH (L : Nat) (A B : Nat) (x : List Int) (W : World) : Prop := A + 4 ≤ B ∧ Sl ics 1 W B (some ⟨A + 1, 0, none⟩) L L x

theorem incH_keep (L A B : Nat) (x : List Int) (X Y : World) (h : incH L A B x X) (hk : ∀ k, A ≤ k → k < B → Y.heap[k]? = X.heap[k]?) : incH L A B x Y := by
 refine ⟨h.1, h.2.len, h.2.cap, h.2.small, fun hn => ?_⟩
 obtain ⟨b, off, hA, hlt, hc⟩ := h.2.cells hn
 have hb : b = A + 1 := by simp at hA; exact hA.1.symm
 exact ⟨b, off, hA, hlt, fun k y hy j v hj => (World.cell?_of_block (w := X) (hk b (by omega) hlt)).trans (hc k y hy j v hj)⟩

theorem IncS.sl {A pl ps L sz l B : Nat} {y : List Int} {W : World} (h : IncS A pl ps L sz l y W) (hB : A + 4 ≤ B) (hL : L ≤ 100) : Sl ics 1 W B (some ⟨A + 1, 0, none⟩) L L y := by
 refine ⟨h.ylen, Nat.le_refl _, by omega, fun _ => ⟨A + 1, 0, rfl, by omega, fun k x hk j v hj => ?_⟩⟩
 have hv : j = 0 ∧ v = .int .i64 x := by
  rcases j with _ | j
  ·
   simp [ics] at hj; exact ⟨rfl, hj.symm⟩
  ·
   simp [ics] at hj
 obtain ⟨rfl, rfl⟩ := hv
 rw [show 0 + k * 1 + 0 = k from by omega, cell_in h.arr k]
 simp [hk]

set_option maxRecDepth 100000 in
set_option maxHeartbeats 4000000 in
theorem choose_in (F : Fence) (hd : F.depth = none) (h125 : F.fn 132) (hro : F.round = none) (l A pl ps L sz : Nat) (hL : L ≤ 100) (hsz : sz ≤ 100) (R : Nat → Prop) (r1 : R pl) (r2 : R ps) (h1A : pl < A) (h2A : ps < A) (xs : List (List Int))
  (J Jx : Nat → List (List Int) → World → Prop) (hJ : Abides A J)
  (hY : ∀ n B pre x W1, A ≤ B → B ≤ W1.heap.size → J B pre W1 → incH L A B x W1 → pre ++ [x] <+: xs → YieldAt F n Try.prog l (incE L A x) W1 fun e W' =>
   (e = .returned (.bool true) ∧ J B (pre ++ [x]) W' ∧ Kept R A B W1 W') ∨ (e = .returned (.bool false) ∧ Jx B (pre ++ [x]) W')) (j : Nat) :
  ∀ (n : Nat) (t frm : Nat) (pr y : List Int) (don : List (List Int)) (W : World), t + j = L → frm ≤ sz → IncS A pl ps L sz l y W → A + 4 ≤ W.heap.size → y.take t = pr → J (A + 4) don W → don ++ (M.incr sz j frm).map (pr ++ ·) <+: xs →
   CallsIn F n Try.prog 132 #[.int .i64 t, .int .i64 frm, .pointer (some ⟨pl, 0, none⟩), .pointer (some ⟨A, 0, none⟩), .pointer (some ⟨A + 2, 0, none⟩), .pointer (some ⟨ps, 0, none⟩), .pointer (some ⟨A + 3, 0, none⟩)] W fun e W' =>
    (e = .returned (.bool true) ∧ J (A + 4) (don ++ (M.incr sz j frm).map (pr ++ ·)) W' ∧ W.heap.size ≤ W'.heap.size ∧ ∃ y', IncS A pl ps L sz l y' W' ∧ y'.take t = pr) ∨ (e = .returned (.bool false) ∧ ∃ q, q <+: xs ∧ Jx (A + 4) q W') := by
 have hdd : ∀ k : Nat, (F.depth.isSome = true → 1 ≤ k) := fun k h => by rw [hd] at h; cases h
 induction j with
 | zero =>
  intro n t frm pr y don W ht hfr hS hz hy hJd hpx
  have htL : (t : Int) = (L : Int) := by omega
  have hyl := hS.ylen
  have hpr : y = pr := by rw [← hy, List.take_of_length_le (by omega)]
  subst hpr
  simp only [M.incr, List.map_cons, List.map_nil, List.append_nil] at hpx ⊢
  have hr := hY (n - 1) (A + 4) don y W (by omega) hz hJd ⟨Nat.le_refl _, hS.sl (Nat.le_refl _) hL⟩ hpx
  obtain ⟨fn, tmps, assign, body, hyy, hR⟩ := hr
  unfold incE at hyy
  have c1 := cell_in hS.len 0
  have c2 := cell_in hS.yld 0
  have c3 := cell_in hS.lst 0
  simp only [List.getElem?_toArray, List.getElem?_cons_zero] at c1 c2 c3
  refine callsIn_of_wp Try.func132 rfl h125 ?_ hro
  simp only [Try.ntmps132, List.size_toArray, List.length_cons, List.length_nil, Nat.reduceAdd, Nat.reduceSub, Array.replicate_succ, Array.replicate_zero, List.push_toArray, List.append_toArray, List.nil_append, List.cons_append]
  gi_wp2_with (((try refine ⟨hdd _, ?_⟩); refine hR.mono ?_; clear hR; rintro e W2 (⟨rfl, hJ2, hk2⟩ | ⟨rfl, hx2⟩)))
  ·
   go_ret
   exact .inl ⟨rfl, hJ2, hk2.size, y, hS.kept hk2 r1 r2 (Nat.le_refl _), hy⟩
  ·
   go_ret
   exact .inr ⟨rfl, _, hpx, hx2⟩
 | succ j ih =>
  intro n t frm pr y don W ht hfr hS hz hy hJd hpx
  have htL : ¬ (t : Int) = (L : Int) := by omega
  have c1 := cell_in hS.len 0
  simp only [List.getElem?_toArray, List.getElem?_cons_zero] at c1
  refine callsIn_of_wp Try.func132 rfl h125 ?_ hro
  simp only [Try.ntmps132, List.size_toArray, List.length_cons, List.length_nil, Nat.reduceAdd, Nat.reduceSub, Array.replicate_succ, Array.replicate_zero, List.push_toArray, List.append_toArray, List.nil_append, List.cons_append]
  gi_wp2
  gi_loopw [10] (fun v wr => ∃ k : Nat, ∃ y', ∃ don' : List (List Int), v = .int .i64 k ∧ frm ≤ k ∧ k ≤ sz ∧ IncS A pl ps L sz l y' wr ∧ W.heap.size ≤ wr.heap.size ∧ Hid (y'.take t = pr) ∧ J (A + 4) don' wr ∧ Hid (don' ++ ((List.range' k (sz - k)).flatMap fun (i : Nat) => (M.incr sz j (i + 1)).map ((i : Int) :: ·)).map (pr ++ ·) = don ++ (M.incr sz (j + 1) frm).map (pr ++ ·))) (fun v _ => sz - (intOf v).toNat)
  case atStart => exact ⟨frm, y, don, rfl, Nat.le_refl _, hfr, hS, Nat.le_refl _, hid hy, hJd, hid rfl⟩
  case round =>
   obtain ⟨k, y', don', rfl, hk1, hk2, hS', hz', HY', hJ', HD⟩ := hrel
   have c2 := cell_in hS'.siz 0
   simp only [List.getElem?_toArray, List.getElem?_cons_zero] at c2
   by_cases hlt : k < sz
   ·
    have htl : t < L := by omega
    have hprl : pr.length = t := by rw [← HY'.out, List.length_take, hS'.ylen]; omega
    have c3 := cell_in hS'.lst 0
    have c4 := cell_in hS'.cho 0
    simp only [List.getElem?_toArray, List.getElem?_cons_zero] at c3 c4
    have c5 : wr.cell? ⟨A + 1, t, none⟩ = some (.int .i64 (y'.getD t 0)) := by
     rw [cell_in hS'.arr t, List.getElem?_toArray, List.getElem?_map, List.getD_eq_getElem?_getD, List.getElem?_eq_getElem (by rw [hS'.ylen]; exact htl)]; rfl
    have c6 := frozen_in hS'.arr t
    generalize y'.getD t 0 = u0 at c5
    have hS1 : IncS A pl ps L sz l (y'.set t k) (wr.setCell ⟨A + 1, t, none⟩ (.int .i64 k)) :=
     ⟨set_heap hS'.len (by simp; omega), set_heap hS'.siz (by simp; omega), set_heap hS'.yld (by simp), by rw [set_heap_same hS'.arr]; simp [List.map_set], set_heap hS'.lst (by simp), set_heap hS'.cho (by simp), by rw [List.length_set]; exact hS'.ylen⟩
    have hsz1 : (wr.setCell ⟨A + 1, t, none⟩ (.int .i64 k)).heap.size = wr.heap.size := by simp [World.setCell]
    have hsplit : List.range' k (sz - k) = k :: List.range' (k + 1) (sz - (k + 1)) := by rw [show sz - k = (sz - (k + 1)) + 1 from by omega]; rfl
    have hD := HD.out
    rw [hsplit, List.flatMap_cons, List.map_append, List.map_map, ← List.append_assoc] at hD
    have hfn : ((fun x => pr ++ x) ∘ fun x => (k : Int) :: x) = fun x => (pr ++ [(k : Int)]) ++ x := by funext x; simp
    rw [hfn] at hD
    have hpre1 : don' ++ (M.incr sz j (k + 1)).map ((pr ++ [(k : Int)]) ++ ·) <+: xs := List.IsPrefix.trans ⟨_, hD⟩ hpx
    have hih := ih (n - 1) (t + 1) (k + 1) (pr ++ [(k : Int)]) (y'.set t k) don' (wr.setCell ⟨A + 1, t, none⟩ (.int .i64 k)) (by omega) (by omega) hS1 (by simp [World.setCell]; omega)
     (by rw [List.take_add_one, List.take_set_of_le (Nat.le_refl _), HY'.out]; simp [hS'.ylen, htl]) (hJ _ _ _ _ (by omega) hJ' (Bar.setCell _ (by simp) (by simp))) hpre1
    rw [show ((t + 1 : Nat) : Int) = (t : Int) + 1 from by omega, show ((k + 1 : Nat) : Int) = (k : Int) + 1 from by omega] at hih
    have HIH := hid hih
    have HD2 := hid hD
    clear hih ih hD hsplit hfn hpre1
    gi_wp2_with ((try refine ⟨hdd _, ?_⟩); gi_at_call 132; with_reducible refine HIH.out.mono ?_; clear HIH; rintro e W2 (⟨rfl, hJ2, hz2, y2, hS2, hy2⟩ | ⟨rfl, q, hq, hx2⟩))
    ·
     refine ⟨⟨k + 1, y2, _, by go_num, by omega, by omega, hS2, by rw [hsz1] at hz2; omega, hid ?_, hJ2, HD2⟩, by simp [intOf]; omega⟩
     have h3 : (y2.take (t + 1)).take t = (pr ++ [(k : Int)]).take t := by rw [hy2]
     rw [List.take_take, Nat.min_eq_left (by omega), List.take_left' hprl] at h3
     exact h3
    ·
     go_ret
     exact .inr ⟨rfl, q, hq, hx2⟩
   ·
    have hks : k = sz := by omega
    subst hks
    have hD := HD.out
    rw [Nat.sub_self] at hD
    simp only [List.range'_zero, List.flatMap_nil, List.map_nil, List.append_nil] at hD
    have HDD := hid hD
    clear hD
    gi_wp2
    go_ret
    exact .inl ⟨rfl, by rw [← HDD.out]; exact hJ', hz', y', hS', HY'.out⟩

theorem yield_any {F : Fence} (hd : F.depth = none) {m : Nat} (m' : Nat) {P : Program} {l : Nat} {args : Array Value} {W : World} {R : Ending → World → Prop} (h : YieldAt F m P l args W R) : YieldAt F m' P l args W R := by
 obtain ⟨fn, tmps, assign, body, hy, h1, h2⟩ := h
 exact ⟨fn, tmps, assign, body, hy, h1, fun c cs _ => h2 c cs (fun d h => by rw [hd] at h; cases h)⟩

theorem made0 (L : Nat) : madeCells (Value.int .i64 0).cells (L * 1) = ((List.replicate L (0 : Int)).map (Value.int .i64)).toArray := by
 unfold madeCells
 apply Array.ext
 ·
  simp
 ·
  intro i h1 h2
  simp [Value.cells, Nat.mod_one]

theorem make27 (L : Nat) (hL : L ≤ 100) (wx : World) : (Instr.makeSlice 25 (.int .i64 L) (.int .i64 L)).run Try.prog wx = .ok (.slice (some ⟨wx.heap.size, 0, none⟩) L L) (wx.alloc (.cells ((List.replicate L (0 : Int)).map (Value.int .i64)).toArray 3)) := by
 obtain ⟨i0, hi, hz0, hz1, hz2⟩ := info_parts info3
 have := run_makeSlice wx 25 3 i0 _ Try.underlying25 hi hz0 .i64 .i64 L L (by omega) (by omega) (by rw [hz1]; omega) (by rw [hz2]; omega) (by omega)
 rw [hz1, Int.toNat_natCast, made0 L] at this
 exact this

theorem replicate_map {n : Nat} : Array.replicate n (Value.int .i64 0) = ((List.replicate n (0 : Int)).map (Value.int .i64)).toArray := by simp

set_option maxRecDepth 100000 in
set_option maxHeartbeats 4000000 in
theorem incr_seq (F : Fence) (hd : F.depth = none) (h124 : F.fn 131) (h125 : F.fn 132) (hro : F.round = none) (n pl ps L sz : Nat) (hL : L ≤ 100) (hsz : sz ≤ 100) (w0 : World)
  (q1 : w0.heap[pl]? = some (.cells #[.int .i64 L] 3 (0, 0))) (q2 : w0.heap[ps]? = some (.cells #[.int .i64 sz] 3 (0, 0))) :
  SeqX F n Try.prog 131 #[.pointer (some ⟨pl, 0, none⟩), .pointer (some ⟨ps, 0, none⟩)] (incE L) (incH L) (fun k => k = pl ∨ k = ps) (M.incr sz L 0) w0 := by
 intro l J Jx W hW hJ hJx hY h0
 have hdd : ∀ k : Nat, (F.depth.isSome = true → 1 ≤ k) := fun k h => by rw [hd] at h; cases h
 have hpl := heap_lt q1
 have hps := heap_lt q2
 have hws := hW.size
 have hplW : pl < W.heap.size := by omega
 have hpsW : ps < W.heap.size := by omega
 have c1 : W.cell? ⟨pl, 0, none⟩ = some (.int .i64 L) := cell_in ((hW.block pl hpl).trans q1) 0
 have hch : ∀ W4, Ev W W4 → W4.heap.size = W.heap.size + 4 → IncS W.heap.size pl ps L sz l (List.replicate L 0) W4 →
   CallsIn F (n - 1) Try.prog 132 #[.int .i64 0, .int .i64 0, .pointer (some ⟨pl, 0, none⟩), .pointer (some ⟨W.heap.size, 0, none⟩), .pointer (some ⟨W.heap.size + 1 + 1, 0, none⟩), .pointer (some ⟨ps, 0, none⟩), .pointer (some ⟨W.heap.size + 1 + 1 + 1, 0, none⟩)] W4 fun e W' =>
    (∃ b, e = .returned (.bool b)) ∧ ∃ B, W.heap.size ≤ B ∧ (J B (M.incr sz L 0) W' ∨ ∃ pre, pre <+: M.incr sz L 0 ∧ Jx B pre W') := by
  intro W4 hE hs hS
  have := choose_in F hd h125 hro l W.heap.size pl ps L sz hL hsz (fun k => k = pl ∨ k = ps) (.inl rfl) (.inr rfl) (by omega) (by omega) (M.incr sz L 0) J Jx hJ
   (fun m B pre x W1 h1 h2 h3 h4 h5 => yield_any hd m (hY B pre x W1 h1 h2 h3 h4 h5)) L (n - 1) 0 0 [] (List.replicate L 0) [] W4 (by omega) (by omega) hS (by omega) (by simp) (by rw [← hs]; exact h0 W4 hE) (by simp)
  refine CallsIn.mono this ?_
  rintro e W' (⟨rfl, hj, _, _⟩ | ⟨rfl, q, hq, hx⟩)
  ·
   exact ⟨⟨_, rfl⟩, W.heap.size + 4, by omega, .inl (by simpa using hj)⟩
  ·
   exact ⟨⟨_, rfl⟩, W.heap.size + 4, by omega, .inr ⟨q, hq, hx⟩⟩
 have HCH := hid hch
 have hmk := fun wx => make27 L hL wx
 have hal := alloc4 W (.cells #[.func (.yield l) #[] #[]] 107) (.cells (Array.replicate L (.int .i64 0)) 3) (.cells #[.slice (some ⟨W.heap.size + 1, 0, none⟩) L L] 25) (.cells #[.nilFunc] 171)
 have c9 := cell_in hal.2.2.2.1 0
 have f9 := frozen_in hal.2.2.2.1 0
 simp only [List.getElem?_toArray, List.getElem?_cons_zero] at c9
 have HAL := hid hal
 clear hal
 have Q1 := hid ((hW.block pl hpl).trans q1)
 have Q2 := hid ((hW.block ps hps).trans q2)
 clear hch
 refine callsIn_of_wp Try.func131 rfl h124 ?_ hro
 simp only [Try.ntmps131, List.size_toArray, List.length_cons, List.length_nil, Nat.reduceAdd, Nat.reduceSub, Array.replicate_succ, Array.replicate_zero, List.push_toArray, List.append_toArray, List.nil_append, List.cons_append]
 have hcl := alloc4 W (.cells #[.func (.yield l) #[] #[]] 107) (.cells (Array.replicate L (.int .i64 0)) 3) (.cells #[.slice (some ⟨W.heap.size + 1, 0, none⟩) L L] 25) (.cells #[.func (.func 132) #[] #[.pointer (some ⟨pl, 0, none⟩), .pointer (some ⟨W.heap.size, 0, none⟩), .pointer (some ⟨W.heap.size + 1 + 1, 0, none⟩), .pointer (some ⟨ps, 0, none⟩), .pointer (some ⟨W.heap.size + 1 + 1 + 1, 0, none⟩)]] 171)
 have hEv : Ev W ((((W.alloc (.cells #[.func (.yield l) #[] #[]] 107)).alloc (.cells (Array.replicate L (.int .i64 0)) 3)).alloc (.cells #[.slice (some ⟨W.heap.size + 1, 0, none⟩) L L] 25)).alloc (.cells #[.func (.func 132) #[] #[.pointer (some ⟨pl, 0, none⟩), .pointer (some ⟨W.heap.size, 0, none⟩), .pointer (some ⟨W.heap.size + 1 + 1, 0, none⟩), .pointer (some ⟨ps, 0, none⟩), .pointer (some ⟨W.heap.size + 1 + 1 + 1, 0, none⟩)]] 171)) := Ev.alloc (Ev.alloc (Ev.alloc (Ev.alloc (Ev.refl _) _) _) _) _
 have hgo := HCH.out _ hEv hcl.2.2.2.2 ⟨hEv.heap Q1.out, hEv.heap Q2.out, hcl.1, by rw [hcl.2.1]; simp, hcl.2.2.1, hcl.2.2.2.1, by simp⟩
 have HGO := hid hgo
 clear hcl hEv hgo HAL
 gi_wp2_with ((try refine ⟨hdd _, ?_⟩); gi_at_call 132; with_reducible refine HGO.out.mono ?_; clear HGO; rintro e W1 ⟨⟨b, rfl⟩, hB⟩)
 go_end0
 exact ⟨⟨_, rfl⟩, hB⟩

end Go.Proofs.Ytgimcephbeajlaa

namespace Go.Proofs.Ytgimcephbeajlaa
open Go.RowKit Go.Shelf
attribute [local go_sem] Oper.semAt_some

set_option maxRecDepth 100000 in
set_option maxHeartbeats 1000000 in
theorem increasing_c (sz L : Int) (w : World) :
  Calls Try.prog 114 #[.int .i64 sz, .int .i64 L] w fun e w' => e = .returned (.func (.func 131) #[] #[.pointer (some ⟨w.heap.size + 1, 0, none⟩), .pointer (some ⟨w.heap.size, 0, none⟩)]) ∧ Ev w w' ∧ w'.heap[w.heap.size + 1]? = some (.cells #[.int .i64 L] 3 (0, 0)) ∧ w'.heap[w.heap.size]? = some (.cells #[.int .i64 sz] 3 (0, 0)) := by
 have hal := alloc2 w (.cells #[.int .i64 sz] 3) (.cells #[.int .i64 L] 3)
 have HAL := hid hal
 clear hal
 go_enter Try.func114, Try.ntmps114
 go_wp2
 go_ret
 exact ⟨rfl, Ev.alloc (Ev.alloc (Ev.refl _) _) _, HAL.out.2.1, HAL.out.1⟩

/-- The marks that loops over iterators have left in an activation. -/
def marks (Ds : List Nat) : List Deferred := Ds.map fun D => { target := .collected D, args := #[] }

/-- A world from which only shut marks have turned. -/
theorem leaves_marks {F : Fence} {n : Nat} {P : Program} {fn : Func} {tmps : Array Value} {R : Ending → World → Prop} {A : Nat} : ∀ (Ds : List Nat) (w : World), Ds.Nodup → (∀ D ∈ Ds, A ≤ D ∧ w.heap[D]? = some (.deferred (some []))) →
  (∀ w', Below A w w' → (∀ k, k ∉ Ds → w'.heap[k]? = w.heap[k]?) → LeavesIn F n P fn tmps R [] .returning w') → LeavesInM F n P fn tmps R (marks Ds) .returning w
 | [], w, _, _, h => h w (Below.refl _ _) (fun _ _ => rfl)
 | D :: Ds, w, hn, hD, h => by
  obtain ⟨hA, hd⟩ := hD D (by simp)
  obtain ⟨hn1, hn2⟩ := List.nodup_cons.1 hn
  have hl := (Array.getElem?_eq_some_iff.1 hd).1
  have ho : ∀ k, k ≠ D → (w.putObj D (.deferred none)).heap[k]? = w.heap[k]? := fun k hk => World.putObj_heap_other hk
  have hb : Below A w (w.putObj D (.deferred none)) := ⟨rfl, rfl, rfl, by simp, fun k hk => ho k (by omega)⟩
  refine ⟨by simp, .inl ⟨D, _, rfl, run_takeDeferred hd, ?_⟩⟩
  refine leaves_marks Ds _ hn2 (fun E hE => ⟨(hD E (by simp [hE])).1, (ho E (fun e => hn1 (e ▸ hE))).trans (hD E (by simp [hE])).2⟩) (fun w' hb' hk' => ?_)
  refine h w' (hb.trans hb') (fun k hk => ?_)
  simp only [List.mem_cons, not_or] at hk
  exact (hk' k hk.2).trans (ho k hk.1)

def M.first (p : List Int → Bool) (sz : Nat) : Nat → Nat → List Int
 | _, 0 => []
 | L, j + 1 => match (M.incr sz L 0).find? p with
  | some x => x
  | none => M.first p sz (L + 1) j
/-- The first list of all rising ones, the shortest first, of which p holds. -/
def M.shortest (p : List Int → Bool) (sz : Nat) : List Int := M.first p sz 0 (sz + 1)

theorem ownsRow_bar {A B : Nat} {X Y : World} {e : TypeId} {size : Nat} {v : Value} {n : Nat} {xs : List Value} (h : X.ownsRow B e size v n xs) (hb : Bar A B X Y) : Y.ownsRow B e size v n xs := by
 refine ⟨h.1, ?_⟩
 rcases h.2 with hn | ⟨g, cap, cur, rfl, hbg, hgg, rest⟩
 ·
  exact .inl hn
 ·
  exact .inr ⟨g, cap, cur, rfl, hbg, (hb.block g (heap_lt hgg) (by omega)).trans hgg, rest⟩

theorem ics_map : ∀ (x : List Int), x.flatMap ics = x.map (Value.int .i64)
 | [] => rfl
 | y :: r => by rw [List.flatMap_cons, ics_map r]; rfl
theorem ics_one (x : List Int) : ∀ u ∈ x.flatMap ics, u.oneCell' = true := by
 intro u hu
 rw [ics_map] at hu
 obtain ⟨y, _, rfl⟩ := List.mem_map.1 hu
 rfl

theorem ownsRow_cells {B : Nat} {X Y : World} {e : TypeId} {size : Nat} {v : Value} {n : Nat} {xs : List Value} (h : X.ownsRow B e size v n xs) (hb : ∀ (k : Nat) (o : Obj), X.heap[k]? = some o → o.isCells = true → Y.heap[k]? = some o) : Y.ownsRow B e size v n xs := by
 refine ⟨h.1, ?_⟩
 rcases h.2 with hn | ⟨g, cap, cur, rfl, hbg, hgg, rest⟩
 ·
  exact .inl hn
 ·
  exact .inr ⟨g, cap, cur, rfl, hbg, hb _ _ hgg rfl, rest⟩

theorem slice_news {W : World} {b m d : Nat} {x : List Int} (h : Sl ics 1 W W.heap.size (some ⟨b, 0, none⟩) m d x) : ∀ (j : Nat) (u : Value), (x.flatMap ics)[j]? = some u → W.cell? ((⟨b, 0, none⟩ : Addr).add j) = some u := by
 intro j u hj
 have hx := ics_map x
 rw [hx, List.getElem?_map] at hj
 cases hy : x[j]? with
 | none => rw [hy] at hj; simp at hj
 | some y =>
  rw [hy] at hj
  have hlt : 0 < m := by have := h.len; have := (List.getElem?_eq_some_iff.1 hy).1; omega
  obtain ⟨b', off, hA, _, hc⟩ := h.cells hlt
  simp only [Option.some.injEq, Addr.mk.injEq, and_true] at hA
  obtain ⟨rfl, rfl⟩ := hA
  have hu : u = .int .i64 y := by simpa using hj.symm
  have := hc j y hy 0 (.int .i64 y) rfl
  rw [hu, ← this]
  unfold Addr.add
  split
  ·
   rename_i h0; subst h0; rfl
  ·
   simp

theorem M.incr_range (sz : Nat) : ∀ (L frm : Nat) (l : List Int), l ∈ M.incr sz L frm → ∀ r ∈ l, 0 ≤ r ∧ r < sz
 | 0, _, l, h, r, hr => by simp [M.incr] at h; subst h; simp at hr
 | L + 1, frm, l, h, r, hr => by
  unfold M.incr at h
  obtain ⟨k, hk, h⟩ := List.mem_flatMap.1 h
  obtain ⟨l', hl', rfl⟩ := List.mem_map.1 h
  rw [List.mem_range'] at hk
  obtain ⟨i, hi, rfl⟩ := hk
  rcases List.mem_cons.1 hr with rfl | hr
  ·
   omega
  ·
   exact M.incr_range sz L _ l' hl' r hr

end Go.Proofs.Ytgimcephbeajlaa

namespace Go.Proofs.Ytgimcephbeajlaa
open Go.RowKit Go.Shelf
attribute [local go_sem] Oper.semAt_some

def M.pad (pre : List Int) : List Int := pre ++ List.replicate (7 - pre.length) (-2)

def sheE (_ : Nat) (x : List Int) : Array Value := #[sv x]
def sheH (_ _ : Nat) (x : List Int) (_ : World) : Prop := x.length = 7

theorem M.pad_len {pre : List Int} (h : pre.length ≤ 7) : (M.pad pre).length = 7 := by simp [M.pad]; omega

end Go.Proofs.Ytgimcephbeajlaa


namespace Go.Proofs.Ytgimcephbeajlaa
open Go.RowKit

/-- The list with a number, of r rows, to the base D. -/
def M.nthK (D : Nat) : Nat → Nat → List Int
 | 0, _ => []
 | r + 1, n => (((n % D : Nat) : Int) - 1) :: M.nthK D r (n / D)
theorem M.nthK_len (D : Nat) : ∀ r n, (M.nthK D r n).length = r
 | 0, _ => rfl
 | r + 1, n => by rw [M.nthK, List.length_cons, M.nthK_len D r]

theorem own0 {w : World} {base : Nat} {e : TypeId} {size : Nat} {v : Value} {n : Nat} {xs : List Value} (h : w.ownsRow base e size v n xs) : w.ownsRow 0 e size v n xs := by
 refine ⟨h.1, ?_⟩
 rcases h.2 with hn | ⟨g, cap, cur, rfl, _, rest⟩
 ·
  exact .inl hn
 ·
  exact .inr ⟨g, cap, cur, rfl, Nat.zero_le _, rest⟩

end Go.Proofs.Ytgimcephbeajlaa

set_option linter.unusedSimpArgs false
set_option linter.unusedVariables false
namespace Go.Proofs.Ytgimcephbeajlaa
open Go.RowKit Go.Shelf

theorem lets_of {Q : Exit → Act → World → Prop} (h : ∀ a w, ¬ Q .outgrown a w) : ¬ LetsOut Q := by
 rintro ⟨a, w, hl⟩
 exact h a w hl

/-- An operation that is no defer statement goes in a round as in a plain frame. -/
theorem oper_in {P : Program} {l n : Nat} {o : Oper} {a : Act} {w : World} {K : Act → World → Prop} {Q : Exit → Act → World → Prop} (hnd : ∀ c, o.op ≠ .defer c) (h : o.wp P a w K Q) : o.wpIn (Fence.wide.inRound l) n P a w K Q := by
 refine ⟨fun _ _ => trivial, ?_⟩
 rw [Oper.semAt_eq _ _ _ hnd]
 unfold Oper.wp at h
 generalize (execOp a.eval o).run P w = r at h
 cases r with
 | ok x w' =>
  cases x <;> simp only [Oper.upon, Oper.uponIn] at h ⊢ <;> first
   | exact h
   | exact ⟨fun h => (by cases h), CallsIn.inRound l (callsIn_wide.2 h)⟩
   | exact h.elim
   | exact ⟨fun h => (by cases h), fun c cs _ => let ⟨v, w', r, s⟩ := h c cs; ⟨v, w', r, stepsIn_wide.2 s⟩⟩
 | halt x w' => cases x <;> simp only [Oper.upon, Oper.uponIn] at h ⊢ <;> exact h

/-- A region that was walked, whatever its order, with a condition on the world: it goes in a round too. -/
theorem any_in {P : Program} {l n : Nat} {md : Region.Mode} {ops : Array Oper} {Q : Exit → Act → World → Prop} (hnd : ∀ (i : Nat) (o : Oper), ops[i]? = some o → ∀ c, o.op ≠ .defer c) (hlo : ¬ LetsOut Q) : ∀ (fuel : Nat) (listed : Array Bool) (a : Act) (w : World),
  wpAny P md ops Q fuel listed a w → wpAnyIn (Fence.wide.inRound l) n P md ops Q fuel listed a w
 | 0, _, _, _, h => h
 | fuel + 1, listed, a, w, h => ⟨h.1, fun i hi => by
   have h2 := wpOp_mono (fun a' w' h' => any_in (l := l) (n := n) hnd hlo fuel _ a' w' h') (h.2 i hi)
   unfold wpOp at h2
   unfold wpOpIn
   split at h2
   ·
    rename_i ho; simp only [ho]; exact h2
   ·
    rename_i o ho
    simp only [ho]
    split at h2
    ·
     rename_i hw
     rw [if_pos hw]
     rcases h2 with h2 | h2
     ·
      exact oper_in (hnd i o ho) h2
     ·
      exact absurd h2.2 hlo
    ·
     rename_i hw
     rw [if_neg hw]
     exact ⟨fun _ _ => trivial, h2⟩⟩

def noDefer (o : Oper) : Bool := match o.op with
 | .defer _ => false
 | _ => true
theorem noDefer_spec {ops : Array Oper} (h : ops.toList.all noDefer = true) : ∀ (i : Nat) (o : Oper), ops[i]? = some o → ∀ c, o.op ≠ .defer c := by
 intro i o ho c hc
 have hm : o ∈ ops.toList := by
  rw [← Array.getElem?_toList] at ho
  exact List.mem_of_getElem? ho
 have := List.all_eq_true.1 h o hm
 simp [noDefer, hc] at this

theorem held_in {P : Program} {l n id : Nat} {ops : Array Oper} {Q : Exit → Act → World → Prop} {S : World → Prop} {a : Act} {w : World} (hm : P.follows .mixedOrders = true) (hnd : ops.toList.all noDefer = true) (hlo : ∀ a w, ¬ Q .outgrown a w)
  (hS : S w.drew) (h : S w.drew → wpAnyH P .any ops Q S ops.size (Array.replicate ops.size false) a w.drew) : (Code.region id ops true).wpIn (Fence.wide.inRound l) n P Q a w :=
 wpIn_region_any hm (any_in (noDefer_spec hnd) (lets_of hlo) _ _ _ _ (wpAny_of_held _ _ _ _ (h hS)))

end Go.Proofs.Ytgimcephbeajlaa

namespace Go.Proofs.Ytgimcephbeajlaa
open Go.RowKit Go.Shelf
attribute [local go_sem] Oper.semAt_some

def M.noFault : List Bool := [false, false, false, false, false]

theorem len_flat {α β : Type} (g : α → List β) (m : Nat) : ∀ (l : List α), (∀ x ∈ l, (g x).length ≤ m) → (l.flatMap g).length ≤ l.length * m
 | [], _ => by simp
 | x :: r, h => by
  rw [List.flatMap_cons, List.length_append, List.length_cons, Nat.succ_mul]
  have := len_flat g m r (fun y hy => h y (by simp [hy]))
  have := h x (by simp)
  omega

theorem frz5 {W : World} {b : Nat} {cs : Array Value} {t : TypeId} (h : W.heap[b]? = some (.cells cs t (0, 0))) : W.frozen? ⟨b, 0, none⟩ = false ∧ W.frozen? ⟨b, 1, none⟩ = false ∧ W.frozen? ⟨b, 2, none⟩ = false ∧ W.frozen? ⟨b, 3, none⟩ = false ∧ W.frozen? ⟨b, 4, none⟩ = false :=
 ⟨frozen_in h 0, frozen_in h 1, frozen_in h 2, frozen_in h 3, frozen_in h 4⟩
theorem set5 {W : World} {b : Nat} {t : TypeId} {z0 z1 z2 z3 z4 v0 v1 v2 v3 v4 : Value} (h : W.heap[b]? = some (.cells #[z0, z1, z2, z3, z4] t (0, 0))) :
  (((((W.setCell ⟨b, 0, none⟩ v0).setCell ⟨b, 1, none⟩ v1).setCell ⟨b, 2, none⟩ v2).setCell ⟨b, 3, none⟩ v3).setCell ⟨b, 4, none⟩ v4).heap[b]? = some (.cells #[v0, v1, v2, v3, v4] t (0, 0)) := by
 have h1 := set_heap_same (j := 0) (v := v0) h
 have h2 := set_heap_same (j := 1) (v := v1) h1
 have h3 := set_heap_same (j := 2) (v := v2) h2
 have h4 := set_heap_same (j := 3) (v := v3) h3
 have h5 := set_heap_same (j := 4) (v := v4) h4
 rw [h5]
 simp

theorem own_ne {X : World} {B e1 e2 s1 s2 n1 n2 : Nat} {v1 v2 : Value} {x1 x2 : List Value} (h1 : X.ownsRow B e1 s1 v1 n1 x1) (h2 : X.ownsRow B e2 s2 v2 n2 x2) (hne : e1 ≠ e2) : v2.ownBlock = none ∨ v2.ownBlock ≠ v1.ownBlock := by
 rcases h2.2 with ⟨rfl, _⟩ | ⟨g, cap, cur, rfl, _, hg, _⟩
 ·
  exact .inl rfl
 ·
  right
  rcases h1.2 with ⟨rfl, _⟩ | ⟨g1, cap1, cur1, rfl, _, hg1, _⟩
  ·
   simp [Value.ownBlock]
  ·
   simp only [Value.ownBlock, ne_eq, Option.some.injEq]
   rintro rfl
   rw [hg] at hg1
   simp only [Option.some.injEq, Obj.cells.injEq] at hg1
   exact hne hg1.2.1.symm

theorem ownsRow_fresh {B : Nat} {X Y : World} {e : TypeId} {size : Nat} {v : Value} {n : Nat} {xs : List Value} (h : X.ownsRow B e size v n xs) (hb : ∀ k, B ≤ k → k < X.heap.size → Y.heap[k]? = X.heap[k]?) : Y.ownsRow B e size v n xs := by
 refine ⟨h.1, ?_⟩
 rcases h.2 with hn | ⟨g, cap, cur, rfl, hbg, hgg, rest⟩
 ·
  exact .inl hn
 ·
  exact .inr ⟨g, cap, cur, rfl, hbg, (hb g hbg (heap_lt hgg)).trans hgg, rest⟩

theorem sl_own {α : Type} {enc : α → List Value} {sz : Nat} {w : World} {base : Nat} {e : TypeId} {V : Option Addr} {n c : Nat} {xs : List α} (hsz : 0 < sz) (henc : ∀ x ∈ xs, (enc x).length = sz) (hsm : n ≤ 1099511627776)
  (h : w.ownsRow base e sz (.slice V n c) n (xs.flatMap enc)) : Sl enc sz w w.heap.size V n c xs := by
 obtain ⟨A, c', he, hs⟩ := Sl.of_own hsz henc hsm h
 injection he with h1 _ h2
 subst h1 h2
 exact hs

end Go.Proofs.Ytgimcephbeajlaa

set_option linter.unusedSimpArgs false
set_option linter.unusedVariables false

namespace Go.Proofs.Ytgimcephbeajlaa
open Go.RowKit

def M.firstK (fs : List (List Bool)) : Nat → Nat → Int × Int
 | _, 0 => (0, 7)
 | k, j + 1 => if M.agreeAll (k + 1) fs then M.firstK fs (k + 1) j else ((k : Int), 0)

end Go.Proofs.Ytgimcephbeajlaa




namespace Go.Proofs.Ytgimcephbeajlaa
open Go.RowKit

theorem frz3 {W : World} {b : Nat} {cs : Array Value} {t : TypeId} (h : W.heap[b]? = some (.cells cs t (0, 0))) : W.frozen? ⟨b, 0, none⟩ = false ∧ W.frozen? ⟨b, 1, none⟩ = false ∧ W.frozen? ⟨b, 2, none⟩ = false :=
 ⟨frozen_in h 0, frozen_in h 1, frozen_in h 2⟩
theorem set3 {W : World} {b : Nat} {t : TypeId} {z0 z1 z2 v0 v1 v2 : Value} (h : W.heap[b]? = some (.cells #[z0, z1, z2] t (0, 0))) :
  (((W.setCell ⟨b, 0, none⟩ v0).setCell ⟨b, 1, none⟩ v1).setCell ⟨b, 2, none⟩ v2).heap[b]? = some (.cells #[v0, v1, v2] t (0, 0)) := by
 have h1 := set_heap_same (j := 0) (v := v0) h
 have h2 := set_heap_same (j := 1) (v := v1) h1
 have h3 := set_heap_same (j := 2) (v := v2) h2
 rw [h3]
 simp

end Go.Proofs.Ytgimcephbeajlaa

namespace Go.Proofs.Ytgimcephbeajlaa
open Go.RowKit

def rgc (r : M.Rg) : List Value := [.int .i64 r.lo, .int .i64 r.hi]

theorem set_pair : ∀ (ys : List M.Rg) (k : Nat) (r : M.Rg), k < ys.length → ((ys.flatMap rgc).set (k * 2) (.int .i64 r.lo)).set (k * 2 + 1) (.int .i64 r.hi) = (ys.set k r).flatMap rgc
 | [], _, _, h => by simp at h
 | y :: t, 0, r, _ => by simp [rgc, List.flatMap_cons]
 | y :: t, k + 1, r, h => by
  rw [List.flatMap_cons, List.set_cons_succ, List.flatMap_cons, ← set_pair t k r (by simpa using h)]
  show ((Value.int .i64 y.lo :: Value.int .i64 y.hi :: t.flatMap rgc).set ((k + 1) * 2) _).set ((k + 1) * 2 + 1) _ = _
  rw [show (k + 1) * 2 = k * 2 + 1 + 1 from by omega, List.set_cons_succ, List.set_cons_succ, List.set_cons_succ, List.set_cons_succ]
  rfl
theorem pair_get (ys : List M.Rg) (k : Nat) (h : k < ys.length) : (∃ v, (ys.flatMap rgc)[k * 2]? = some (.int .i64 v)) ∧ ∃ v, (ys.flatMap rgc)[k * 2 + 1]? = some (.int .i64 v) := by
 have hx : ys[k]? = some (ys[k]'h) := List.getElem?_eq_getElem _
 exact ⟨⟨_, flat_get rgc 2 ys (fun _ _ => rfl) k _ hx 0 _ rfl⟩, ⟨_, flat_get rgc 2 ys (fun _ _ => rfl) k _ hx 1 _ rfl⟩⟩

theorem zeros_pair : ∀ D : Nat, Array.replicate (D * 2) (Value.int .i64 0) = ((List.replicate D (⟨0, 0⟩ : M.Rg)).flatMap rgc).toArray := by
 intro D
 induction D with
 | zero => rfl
 | succ D ih =>
  rw [List.replicate_succ, List.flatMap_cons]
  have : ((List.replicate D (⟨0, 0⟩ : M.Rg)).flatMap rgc) = List.replicate (D * 2) (Value.int .i64 0) := by
   have h := congrArg Array.toList ih
   simpa using h.symm
  rw [this, show (D + 1) * 2 = D * 2 + 1 + 1 from by omega]
  apply Array.ext'
  rw [Array.toList_replicate]
  simp [rgc, List.replicate_succ]

end Go.Proofs.Ytgimcephbeajlaa


namespace Go.Proofs.Ytgimcephbeajlaa
open Go.RowKit

def M.same (row : Nat) (ts : List (List Int)) : Bool := ts.all fun t => t.getD row 0 == (ts.headD []).getD row 0
def M.leastOf : List Int → Int
 | [] => 0
 | a :: r => M.least a r
def M.maxes (g : Int → Int) : List Int → Int → Int
 | [], a => a
 | s :: r, a => M.maxes g r (max a (g s))

theorem M.agree_lt {ts : List (List Int)} {row : Nat} (h : M.same row ts = false) (s : Int) : (M.agreeing ts row s).length < ts.length := by
 unfold M.agreeing
 have h1 : (ts.filter fun t => t.getD row 0 == s).length ≤ ts.length := List.length_filter_le _ _
 rcases Nat.lt_or_ge (ts.filter fun t => t.getD row 0 == s).length ts.length with h2 | h2
 ·
  exact h2
 ·
  exfalso
  have h3 : ∀ t ∈ ts, (t.getD row 0 == s) = true := List.length_filter_eq_length_iff.1 (by omega)
  have h4 : M.same row ts = true := by
   unfold M.same
   rw [List.all_eq_true]
   intro t ht
   cases ts with
   | nil => cases ht
   | cons u r =>
    have a := h3 t ht
    have b := h3 u (by simp)
    simp at a b ⊢
    rw [a, b]
  rw [h4] at h; cases h

theorem M.least_le (a : Int) : ∀ (l : List Int), M.least a l ≤ a ∧ ∀ y ∈ l, M.least a l ≤ y := by
 intro l
 induction l generalizing a with
 | nil => simp [M.least]
 | cons y r ih =>
  unfold M.least
  have := ih (if y < a then y else a)
  refine ⟨?_, ?_⟩
  ·
   split at this <;> rename_i h <;> simp only [h, if_true, if_false] <;> omega
  ·
   intro z hz
   rcases List.mem_cons.1 hz with rfl | hz
   ·
    split at this <;> rename_i h <;> simp only [h, if_true, if_false] <;> omega
   ·
    exact this.2 z hz
theorem M.least_mem (a : Int) : ∀ (l : List Int), M.least a l = a ∨ M.least a l ∈ l := by
 intro l
 induction l generalizing a with
 | nil => simp [M.least]
 | cons y r ih =>
  unfold M.least
  have := ih (if y < a then y else a)
  rcases this with h | h
  ·
   rw [h]
   split
   ·
    exact .inr (by simp)
   ·
    exact .inl rfl
  ·
   exact .inr (by simp [h])
theorem M.leastOf_le {l : List Int} {y : Int} (h : y ∈ l) : M.leastOf l ≤ y := by
 cases l with
 | nil => cases h
 | cons a r =>
  have := M.least_le a r
  rcases List.mem_cons.1 h with rfl | h
  ·
   exact this.1
  ·
   exact this.2 y h
theorem M.leastOf_mem {l : List Int} (h : l ≠ []) : M.leastOf l ∈ l := by
 cases l with
 | nil => exact absurd rfl h
 | cons a r => exact List.mem_cons.2 (M.least_mem a r)

theorem M.maxes_bd (g : Int → Int) (K : Int) : ∀ (l : List Int) (a : Int), (∀ s ∈ l, g s ≤ K) → a ≤ K → a ≤ M.maxes g l a ∧ M.maxes g l a ≤ K
 | [], a, _, h => by simp [M.maxes, h]
 | s :: r, a, h, ha => by
  unfold M.maxes
  have hs := h s (by simp)
  have := M.maxes_bd g K r (max a (g s)) (fun z hz => h z (by simp [hz])) (by omega)
  omega

/-- The truths that agree with what was answered (-2: not asked). -/
def M.sel (ans : List Int) (T : List (List Int)) : List (List Int) := T.filter fun t => (List.range 7).all fun r => ans.getD r 0 == -2 || t.getD r 0 == ans.getD r 0

theorem M.sel_blank (T : List (List Int)) : M.sel M.blank T = T := by
 unfold M.sel
 rw [List.filter_eq_self]
 intro t _
 simp [M.blank, List.range_succ]

theorem getD_set {l : List Int} {i : Nat} {v : Int} (hi : i < l.length) (j : Nat) : (l.set i v).getD j 0 = if j = i then v else l.getD j 0 := by
 rw [List.getD_eq_getElem?_getD, List.getElem?_set]
 by_cases h : i = j
 ·
  subst h; simp [hi]
 ·
  rw [if_neg h, if_neg (fun e => h e.symm), List.getD_eq_getElem?_getD]

theorem M.sel_set {ans : List Int} {T : List (List Int)} {row : Nat} {said : Int} (hl : ans.length = 7) (hr : row ≤ 6) (h2 : ans.getD row 0 = -2) (hs : said ≠ -2) :
  M.sel (ans.set row said) T = M.agreeing (M.sel ans T) row said := by
 unfold M.sel M.agreeing
 rw [List.filter_filter]
 refine List.filter_congr fun t _ => ?_
 rw [Bool.eq_iff_iff]
 simp only [List.all_eq_true, List.mem_range, Bool.or_eq_true, beq_iff_eq, Bool.and_eq_true]
 constructor
 ·
  intro h
  have h0 := h row (by omega)
  rw [getD_set (by omega), if_pos rfl] at h0
  refine ⟨h0.resolve_left hs, fun r hr7 => ?_⟩
  by_cases e : r = row
  ·
   subst e; exact .inl h2
  ·
   have := h r hr7
   rwa [getD_set (by omega), if_neg e] at this
 ·
  intro ⟨h0, h⟩ r hr7
  rw [getD_set (by omega)]
  by_cases e : r = row
  ·
   subst e; rw [if_pos rfl]; exact .inr h0
  ·
   rw [if_neg e]; exact h r hr7

theorem M.sel_open {ans : List Int} {T : List (List Int)} {row : Nat} (hr : row ≤ 6) (h : M.same row (M.sel ans T) = false) : ans.getD row 0 = -2 := by
 by_cases h2 : ans.getD row 0 = -2
 ·
  exact h2
 ·
  exfalso
  have hall : ∀ t ∈ M.sel ans T, t.getD row 0 = ans.getD row 0 := by
   intro t ht
   have := (List.mem_filter.1 ht).2
   rw [List.all_eq_true] at this
   have := this row (List.mem_range.2 (by omega))
   simp only [Bool.or_eq_true, beq_iff_eq] at this
   exact this.resolve_left h2
  have : M.same row (M.sel ans T) = true := by
   unfold M.same
   rw [List.all_eq_true]
   intro t ht
   cases hs : M.sel ans T with
   | nil => rw [hs] at ht; cases ht
   | cons u r =>
    rw [hs] at hall ht
    simp only [List.headD_cons, beq_iff_eq]
    rw [hall t ht, hall u (by simp)]
  rw [this] at h; cases h

/-- The call has only made memory, and written to the map in block mb. -/
def Mo (mb : Nat) (w w' : World) : Prop := w.grownBy w' (some mb)
theorem Mo.refl (mb : Nat) (w : World) : Mo mb w w := ⟨rfl, rfl, rfl, Nat.le_refl _, fun _ _ _ => rfl⟩
theorem Mo.ev {mb : Nat} {a b : World} (h : Ev a b) : Mo mb a b := ⟨h.os, h.tape, h.output, h.size, fun k hk _ => h.block k hk⟩
theorem Mo.size {mb : Nat} {a b : World} (h : Mo mb a b) : a.heap.size ≤ b.heap.size := World.grownBy.size h
theorem Mo.trans {mb : Nat} {a b c : World} (h : Mo mb a b) (k : Mo mb b c) : Mo mb a c :=
 ⟨(World.grownBy.os k).trans (World.grownBy.os h), (World.grownBy.tape k).trans (World.grownBy.tape h), (World.grownBy.output k).trans (World.grownBy.output h), Nat.le_trans h.size k.size,
  fun i hi hn => (World.grownBy.block k i (Nat.lt_of_lt_of_le hi h.size) hn).trans (World.grownBy.block h i hi hn)⟩
theorem Mo.heap {mb : Nat} {a b : World} (h : Mo mb a b) {k : Nat} {o : Obj} (hk : a.heap[k]? = some o) (hne : k ≠ mb) : b.heap[k]? = some o := grown_heap h hk hne
theorem Mo.cells {mb : Nat} {a b : World} (h : Mo mb a b) : (∀ k o, k < a.heap.size → k ≠ mb → b.cell? ⟨k, o, none⟩ = a.cell? ⟨k, o, none⟩) ∧ (∀ k o, k < a.heap.size → k ≠ mb → b.frozen? ⟨k, o, none⟩ = a.frozen? ⟨k, o, none⟩) :=
 ⟨fun k o hk hne => World.cell?_of_block (a := ⟨k, o, none⟩) (World.grownBy.block h k hk (by simpa using hne)), fun k o hk hne => World.frozen?_of_block (a := ⟨k, o, none⟩) (World.grownBy.block h k hk (by simpa using hne))⟩
theorem Mo.alloc {mb : Nat} {a b : World} (h : Mo mb a b) (o : Obj) : Mo mb a (b.alloc o) := h.trans (Mo.ev (Ev.alloc (Ev.refl _) o))
theorem Mo.drew {mb : Nat} {a b : World} (h : Mo mb a b) : Mo mb a b.drew := h.trans (Mo.ev (Ev.drew (Ev.refl _)))
theorem Mo.drewN {mb : Nat} {a b : World} (h : Mo mb a b) (n : Nat) : Mo mb a (b.drewN n) := h.trans (Mo.ev (Ev.drewN (Ev.refl _) n))
theorem Mo.setCell {mb : Nat} {a b : World} (h : Mo mb a b) {p : Addr} (hp : a.heap.size ≤ p.block) (v : Value) : Mo mb a (b.setCell p v) :=
 ⟨(show b.os = a.os from World.grownBy.os h), (show b.tape = a.tape from World.grownBy.tape h), (show b.output = a.output from World.grownBy.output h), by simpa [World.setCell] using h.size, fun k hk hn => (Below.heap_setCell _ _ _ _ (by omega)).trans (World.grownBy.block h k hk hn)⟩
theorem Mo.evr {mb : Nat} {a b c : World} (h : Ev a b) (k : Mo mb b c) (hm : a.heap.size ≤ mb) : Ev a c := Ev.grown h k (fun j e => by cases e; exact hm)

theorem cell_map {w : World} {b : Nat} {es : Array MapEntry} {ck : Nat} (h : w.heap[b]? = some (.map es ck)) (j : Nat) : w.cell? ⟨b, j, none⟩ = none := by
 simp [World.cell?, h]

theorem Sl.mo {α : Type} {enc : α → List Value} {sz : Nat} {w w' : World} {B B' mb : Nat} {A : Option Addr} {n c : Nat} {xs : List α} {P : Program} {kt : TypeId} {g : Value → Option Value}
  (h : Sl enc sz w B A n c xs) (hm : MapIs P kt w mb g) (hb : Mo mb w w') (hB : B ≤ w.heap.size) (hB' : B ≤ B') : Sl enc sz w' B' A n c xs := by
 obtain ⟨es, ck, hh, _⟩ := hm
 refine ⟨h.len, h.cap, h.small, fun hn => ?_⟩
 obtain ⟨b, off, hA, hlt, hc⟩ := h.cells hn
 refine ⟨b, off, hA, by omega, fun k x hk j v hj => ?_⟩
 have h0 := hc k x hk j v hj
 have hne : b ≠ mb := by
  rintro rfl
  rw [cell_map hh] at h0; cases h0
 exact (hb.cells.1 b _ (by omega) hne).trans h0

end Go.Proofs.Ytgimcephbeajlaa

namespace Go.Proofs.Ytgimcephbeajlaa
open Go.RowKit

theorem wf_set {l : List Int} (h : ∀ y ∈ l, Wf y) {i : Nat} {v : Int} (hv : Wf v) : ∀ y ∈ l.set i v, Wf y := by
 intro y hy
 rcases List.mem_or_eq_of_mem_set hy with hy | hy
 ·
  exact h y hy
 ·
  rw [hy]; exact hv

end Go.Proofs.Ytgimcephbeajlaa




namespace Go.Proofs.Ytgimcephbeajlaa
open Go.RowKit

theorem splice_pad {tr : List Int} (h : tr.length ≤ 7) : splice (M.blank.map (Value.int .i64)) 0 (tr.map (Value.int .i64)) = (M.pad tr).map (Value.int .i64) := by
 have hb : M.blank = List.replicate 7 (-2) := rfl
 unfold splice M.pad
 rw [hb, List.take_zero, List.nil_append, List.map_append, Nat.zero_add, List.length_map, ← List.map_drop, List.drop_replicate]

theorem Sl.src {w : World} {B : Nat} {A : Option Addr} {n c : Nat} {xs : List Int} (h : Sl ics 1 w B A n c xs) (hn : 0 < n) : ∃ ad, A = some ad ∧ ∀ (j : Nat) (v : Value), (xs.map (Value.int .i64))[j]? = some v → w.cell? (ad.add j) = some v := by
 obtain ⟨b, off, hA, _, hc⟩ := h.cells hn
 refine ⟨_, hA, fun j v hj => ?_⟩
 rw [List.getElem?_map] at hj
 cases hx : xs[j]? with
 | none => rw [hx] at hj; cases hj
 | some x =>
  rw [hx] at hj
  have := hc j x hx 0 v (by simpa [ics] using hj)
  rw [show (⟨b, off, none⟩ : Addr).add j = ⟨b, off + j, none⟩ from by unfold Addr.add; split <;> simp_all]
  simpa using this

end Go.Proofs.Ytgimcephbeajlaa

namespace Go.Proofs.Ytgimcephbeajlaa
open Go.RowKit

/-- What a list of lists holds of one of its lists: address, length, capacity. -/
abbrev Hd := Option Addr × Nat × Nat
def hdc (v : Hd) : List Value := [.slice v.1 v.2.1 v.2.2]
theorem info27 : (Try.prog.info? 25).map (fun i => (i.zero, i.size, i.bytes)) = some (some (.slice none 0 0), 1, 24) := by kernel_rfl

/-- A list of its own, of numbers. -/
def IRow (w : World) (v : Hd) (xs : List Int) : Prop := w.ownsRow 0 3 1 (.slice v.1 v.2.1 v.2.2) v.2.1 (xs.flatMap ics) ∧ v.2.1 ≤ 1099511627776
def Rows2 (w : World) : List Hd → List (List Int) → Prop
 | [], [] => True
 | v :: vs, x :: xs => IRow w v x ∧ Rows2 w vs xs
 | _, _ => False

theorem IRow.sl {w : World} {v : Hd} {xs : List Int} (h : IRow w v xs) : Sl ics 1 w w.heap.size v.1 v.2.1 v.2.2 xs := sl_own (by decide) (fun _ _ => rfl) h.2 h.1
theorem IRow.ev {w w' : World} {v : Hd} {xs : List Int} (h : IRow w v xs) (he : Ev w w') : IRow w' v xs := ⟨h.1.ev he, h.2⟩
theorem IRow.grown {w w' : World} {v : Hd} {xs : List Int} (h : IRow w v xs) {base n2 : Nat} {v2 : Value} {x2 : List Value} (h2 : w.ownsRow base 25 1 v2 n2 x2) (hg : w.grownBy w' v2.ownBlock) : IRow w' v xs :=
 ⟨h.1.kept hg (own_ne (own0 h2) h.1 (by decide)), h.2⟩

theorem Rows2.len {w : World} : ∀ {vs : List Hd} {xs : List (List Int)}, Rows2 w vs xs → vs.length = xs.length
 | [], [], _ => rfl
 | _ :: _, [], h => h.elim
 | [], _ :: _, h => h.elim
 | _ :: _, _ :: _, h => by simp [Rows2.len h.2]
theorem Rows2.imp {w w' : World} (hi : ∀ v x, IRow w v x → IRow w' v x) : ∀ {vs : List Hd} {xs : List (List Int)}, Rows2 w vs xs → Rows2 w' vs xs
 | [], [], _ => trivial
 | _ :: _, [], h => h.elim
 | [], _ :: _, h => h.elim
 | _ :: _, _ :: _, h => ⟨hi _ _ h.1, Rows2.imp hi h.2⟩
theorem Rows2.ev {w w' : World} {vs : List Hd} {xs : List (List Int)} (h : Rows2 w vs xs) (he : Ev w w') : Rows2 w' vs xs := h.imp fun _ _ h => h.ev he
theorem Rows2.snoc {w : World} {v : Hd} {x : List Int} (hx : IRow w v x) : ∀ {vs : List Hd} {xs : List (List Int)}, Rows2 w vs xs → Rows2 w (vs ++ [v]) (xs ++ [x])
 | [], [], _ => ⟨hx, trivial⟩
 | _ :: _, [], h => h.elim
 | [], _ :: _, h => h.elim
 | _ :: _, _ :: _, h => ⟨h.1, Rows2.snoc hx h.2⟩
theorem Rows2.get {w : World} : ∀ {vs : List Hd} {xs : List (List Int)} (k : Nat) (_ : Rows2 w vs xs) {v : Hd} (_ : vs[k]? = some v), ∃ x, xs[k]? = some x ∧ IRow w v x
 | [], [], _, _, _, hv => by simp at hv
 | _ :: _, [], _, h, _, _ => h.elim
 | [], _ :: _, _, h, _, _ => h.elim
 | _ :: _, _ :: _, 0, h, v, hv => ⟨_, rfl, by simp at hv; subst hv; exact h.1⟩
 | _ :: _, _ :: _, k + 1, h, v, hv => by
  obtain ⟨x, h1, h2⟩ := Rows2.get k h.2 (v := v) (by simpa using hv)
  exact ⟨x, by simpa using h1, h2⟩

/-- The slice value '.slice A n c' reads as a list of lists of numbers. -/
def LL (w : World) (A : Option Addr) (n c : Nat) (xs : List (List Int)) : Prop := ∃ vs : List Hd, Sl hdc 1 w w.heap.size A n c vs ∧ Rows2 w vs xs
theorem LL.ev {w w' : World} {A : Option Addr} {n c : Nat} {xs : List (List Int)} (h : LL w A n c xs) (he : Ev w w') : LL w' A n c xs := by
 obtain ⟨vs, h1, h2⟩ := h
 exact ⟨vs, h1.ev he, h2.ev he⟩
theorem LL.len {w : World} {A : Option Addr} {n c : Nat} {xs : List (List Int)} (h : LL w A n c xs) : xs.length = n := by
 obtain ⟨vs, h1, h2⟩ := h
 rw [← h2.len, h1.len]
theorem LL.small {w : World} {A : Option Addr} {n c : Nat} {xs : List (List Int)} (h : LL w A n c xs) : n ≤ 1099511627776 := by
 obtain ⟨vs, h1, h2⟩ := h
 exact h1.small
/-- The k-th list, in a later world. -/
theorem LL.at_ {w wr : World} {A : Option Addr} {n c : Nat} {xs : List (List Int)} (h : LL w A n c xs) (he : Ev w wr) {k : Nat} (hk : k < n) :
  ∃ b off x B m d, A = some ⟨b, off, none⟩ ∧ b < w.heap.size ∧ xs[k]? = some x ∧ xs.drop k = x :: xs.drop (k + 1) ∧ wr.cell? ⟨b, off + k, none⟩ = some (.slice B m d) ∧ IRow w (B, m, d) x := by
 obtain ⟨vs, h1, h2⟩ := h
 obtain ⟨b, off, v, hA, hb, hv, _, hc⟩ := h1.at_ he hk
 obtain ⟨x, hx, hr⟩ := h2.get k hv
 refine ⟨b, off, x, v.1, v.2.1, v.2.2, hA, hb, hx, drop_some hx, ?_, hr⟩
 have := hc 0 _ rfl
 simpa using this

end Go.Proofs.Ytgimcephbeajlaa

namespace Go.Proofs.Ytgimcephbeajlaa
open Go.RowKit

theorem hdc_len (ys : List Hd) : ∀ y ∈ ys, (hdc y).length = 1 := fun _ _ => rfl

end Go.Proofs.Ytgimcephbeajlaa


set_option linter.unusedSimpArgs false
set_option linter.unusedVariables false
namespace Go.Proofs.Ytgimcephbeajlaa
open Go.RowKit

/-- The reference's start: a range without any number. -/
def M.big : Int := 1099511627776
theorem M.big_bd : M.big = 1099511627776 := rfl

def M.wider (r : M.Rg) (n : Int) : M.Rg := ⟨if n < r.lo then n else r.lo, if r.hi < n then n else r.hi⟩


theorem cells2 {W : World} {b : Nat} {t : TypeId} {v0 v1 : Value} (h : W.heap[b]? = some (.cells #[v0, v1] t (0, 0))) : W.cell? ⟨b, 0, none⟩ = some v0 ∧ W.cell? ⟨b, 1, none⟩ = some v1 :=
 ⟨cell_in h 0, cell_in h 1⟩
theorem frz2 {W : World} {b : Nat} {cs : Array Value} {t : TypeId} (h : W.heap[b]? = some (.cells cs t (0, 0))) : W.frozen? ⟨b, 0, none⟩ = false ∧ W.frozen? ⟨b, 1, none⟩ = false :=
 ⟨frozen_in h 0, frozen_in h 1⟩

/-- How many rows of a whole list somebody did. -/
def M.rnum (x : Int) (t : List Int) : Int := M.count t x 0 ((t.length : Int) - 1)
def M.widen (r : M.Rg) : List Int → M.Rg
 | [] => r
 | n :: l => M.widen (M.wider r n) l
/-- The bounds of a weeder's rows, by the reference. -/
def M.rdone (x : Int) (l : List (List Int)) : M.Rg := M.widen ⟨M.big, -M.big⟩ (l.map (M.rnum x))

theorem cell_set_ne {w : World} {p q : Addr} {v : Value} (h : q.block ≠ p.block) : (w.setCell p v).cell? q = w.cell? q := World.cell?_of_block (Below.heap_setCell _ _ _ _ h)
theorem hs_nil {w : World} {A : Option Addr} {n c : Nat} {l : List (List Int)} (hl : LL w A n c l) {k : Nat} (hk : ¬ k < n) : l.drop k = [] := List.drop_eq_nil_of_le (by rw [hl.len]; omega)

end Go.Proofs.Ytgimcephbeajlaa

set_option linter.unusedSimpArgs false
set_option linter.unusedVariables false
namespace Go.Proofs.Ytgimcephbeajlaa
open Go.RowKit

set_option maxHeartbeats 400000 in
theorem between_c (a b : Int) (w : World) :
  Calls Try.prog 49 #[.int .i64 a, .int .i64 b] w fun e w' => e = .returned (.agg #[.int .i64 a, .int .i64 b]) ∧ Ev w w' := by
 go_enter Try.func49, Try.ntmps49
 go_wp2
 refine bodyPost_ret (v := .agg #[.int .i64 a, .int .i64 b]) (by simp [results, Try.results49, go_sem]) rfl ⟨rfl, ?_⟩
 all_goals (repeat first | exact Ev.refl _ | refine Ev.alloc ?_ _ | refine Ev.setCell ?_ (by simp) _)

set_option maxHeartbeats 400000 in
theorem to_c (r : M.Rg) (w : World) :
  Calls Try.prog 36 #[.agg #[.int .i64 r.lo, .int .i64 r.hi]] w fun e w' => e = .returned (.agg #[.int .i64 r.lo, .int .i64 r.hi]) ∧ Ev w w' := by
 go_enter Try.func36, Try.ntmps36
 go_wp2
 refine bodyPost_ret (v := .agg #[.int .i64 r.lo, .int .i64 r.hi]) (by simp [results, Try.results36, go_sem]) rfl ⟨rfl, ?_⟩
 all_goals (repeat first | exact Ev.refl _ | refine Ev.alloc ?_ _ | refine Ev.setCell ?_ (by simp) _)

def M.same_ (a b : List Int) : Bool := decide (a = b)

end Go.Proofs.Ytgimcephbeajlaa

namespace Go.Proofs.Ytgimcephbeajlaa
open Go.RowKit

theorem sl_news {α : Type} {enc : α → List Value} {sz : Nat} (hsz : 0 < sz) {w : World} {B : Nat} {ad : Addr} {m c : Nat} {ys : List α} (hs : Sl enc sz w B (some ad) m c ys) (henc : ∀ y ∈ ys, (enc y).length = sz) :
  ∀ (j : Nat) (u : Value), (ys.flatMap enc)[j]? = some u → w.cell? (ad.add j) = some u := by
 intro j u hj
 have hlt : j < (ys.flatMap enc).length := (List.getElem?_eq_some_iff.1 hj).1
 rw [flat_len enc sz ys henc, hs.len] at hlt
 have hm : 0 < m := by
  rcases Nat.eq_zero_or_pos m with h | h
  ·
   subst h; simp at hlt
  ·
   exact h
 obtain ⟨b, off, hA, _, hc⟩ := hs.cells hm
 obtain rfl : ad = ⟨b, off, none⟩ := by simpa using hA
 have hk : j / sz < m := Nat.div_lt_of_lt_mul (by rw [Nat.mul_comm]; exact hlt)
 have hx : ys[j / sz]? = some (ys[j / sz]'(by rw [hs.len]; exact hk)) := List.getElem?_eq_getElem _
 have he := henc _ (List.mem_of_getElem? hx)
 have hv : (enc (ys[j / sz]'(by rw [hs.len]; exact hk)))[j % sz]? = some ((enc (ys[j / sz]'(by rw [hs.len]; exact hk)))[j % sz]'(by rw [he]; exact Nat.mod_lt _ hsz)) := List.getElem?_eq_getElem _
 have hf := flat_get enc sz ys henc _ _ hx _ _ hv
 have hjj : j / sz * sz + j % sz = j := by rw [Nat.mul_comm]; exact Nat.div_add_mod j sz
 rw [hjj, hj] at hf
 have hcc := hc _ _ hx _ _ hv
 rw [← hf, Nat.add_assoc, hjj] at hcc
 rw [show (⟨b, off, none⟩ : Addr).add j = ⟨b, off + j, none⟩ from by unfold Addr.add; split <;> simp_all]
 exact hcc

/-- append(s, x...): s a row of the call's own, x whatever reads as a list. -/
theorem append_sl {α : Type} {enc : α → List Value} {P : Program} {w : World} {ops : Array Oper} {rest : List Oper} {o : Oper} {a : Act} {Q : Exit → Act → World → Prop} (hgd : o.guard = none) (s x : Operand) (t : TypeId)
  (ho : o.op = .call { callee := .builtin .append, args := #[s, x], argTypes := #[t, t] })
  (base : Nat) (e : TypeId) (i : TypeInfo) (z : Value) (size bytes : Nat) (ht : P.underlying t = some (.slice e)) (hi : P.info? e = some i) (hz : i.zero = some z)
  (hsize : i.size = size) (hby : i.bytes = bytes) (hzs : z.cells.size = size) (hsz : 0 < size)
  (v : Value) (n : Nat) (xs : List α) (hs : a.eval s = v) (hown : w.ownsRow base e size v n (xs.flatMap enc))
  (A : Option Addr) (m c : Nat) (ys : List α) (B : Nat) (hx : a.eval x = .slice A m c) (hsl : Sl enc size w B A m c ys) (henc : ∀ y ∈ ys, (enc y).length = size) (h1 : ∀ u ∈ ys.flatMap enc, u.oneCell' = true) (hnil : A = none → c = 0)
  (h63 : n + m ≤ maxLen) (hbytes : (n + m) * bytes ≤ 140737488355328) (hbase : base ≤ w.heap.size)
  (h : ∀ v' w', w'.ownsRow base e size v' (n + m) ((xs ++ ys).flatMap enc) → w.grownBy w' v.ownBlock → wpList P ops Q rest (a.put o.dst v') w') : wpList P ops Q (o :: rest) a w := by
 cases A with
 | none =>
  have hm : m = 0 := by
   rcases Nat.eq_zero_or_pos m with h | h
   ·
    exact h
   ·
    obtain ⟨b, off, hA, _⟩ := hsl.cells h; cases hA
  subst hm
  obtain rfl : c = 0 := hnil rfl
  obtain rfl : ys = [] := List.eq_nil_of_length_eq_zero hsl.len
  refine wpList_append_own_none hgd s x t ho base e i size ht hi v n _ hs hown hx (h v w ?_ ⟨rfl, rfl, rfl, Nat.le_refl _, fun _ _ _ => rfl⟩)
  simpa using hown
 | some ad =>
  refine wpList_append_own w hgd s x t ho base e i z size bytes ht hi hz hsize hby hzs hsz v n _ hs hown ad m c (ys.flatMap enc) hx (by rw [flat_len enc size ys henc, hsl.len]) (sl_news hsz hsl henc) h1 h63 hbytes hbase fun v' w' h2 h3 _ => h v' w' ?_ h3
  rw [List.flatMap_append]; exact h2

end Go.Proofs.Ytgimcephbeajlaa


namespace Go.Proofs.Ytgimcephbeajlaa
open Go.RowKit

theorem sl_lit {α : Type} {enc : α → List Value} {sz : Nat} (w : World) (t : TypeId) (xs : List α) (n : Nat) (cs : Array Value) (hn : xs.length = n) (hsm : n ≤ 1099511627776) (henc : ∀ x ∈ xs, (enc x).length = sz) (hcs : cs.toList = xs.flatMap enc) :
  Sl enc sz (w.alloc (.cells cs t)) (w.alloc (.cells cs t)).heap.size (some ⟨w.heap.size, 0, none⟩) n n xs := by
 refine ⟨hn, Nat.le_refl _, hsm, fun _ => ⟨w.heap.size, 0, rfl, by simp, fun k x hk j v hj => ?_⟩⟩
 rw [cell_in (alloc1 w _).1, Nat.zero_add, ← Array.getElem?_toList, hcs]
 exact flat_get enc sz xs henc k x hk j v hj

end Go.Proofs.Ytgimcephbeajlaa

namespace Go.Proofs.Ytgimcephbeajlaa
open Go.ChangeShapes Go.WideShapes Go.ChangeAt Go.RowKit

theorem ownNone : ownKnob Try.prog.godebug = none := by kernel_rfl

/-- Each of these types has a row of the table, and can be read. -/
def rowed (P : Program) (ts : List TypeId) : Bool := ts.all fun t => P.readableRec t && decide (t < P.types.size)

section
variable {H : Type} {enc : TypeId × Value → H} {P : Program}

/-- Arguments read later as they did, where nothing old was turned. -/
theorem args_later (hl : laidOutB P = true) {W W' : World} (hb : Below W.heap.size W W') : ∀ {ts : List TypeId} {vs : List Value} {ds : List (DataW H)} {ps : List MemPlace},
  rowed P ts = true → DataW.TrodAll enc P W 0 (fun _ => true) true ts vs ds ps → (∀ x ∈ ps, x.block < W.heap.size) → DataW.TrodAll enc P W' 0 (fun b => decide (b < W.heap.size)) true ts vs ds ps
 | [], vs, ds, ps, _, h, _ => by
  obtain ⟨rfl, rfl, rfl⟩ := trodAll_nil h
  exact trodAll_mk0
 | t :: ts, vs, ds, ps, hr, h, hlt => by
  obtain ⟨v, vs', d, ds', p, q, rfl, rfl, rfl, hd, hrest⟩ := trodAll_cons h
  simp only [rowed, List.all_cons, Bool.and_eq_true, decide_eq_true_eq] at hr
  exact trodAll_cons_mk (Below.trod hl hr.1.1 hr.1.2 hd hb fun x hx => hlt x (by simp [hx])) (args_later hl hb (by simpa [rowed] using hr.2) hrest fun x hx => hlt x (by simp [hx]))

/-- A law's last step: it returned true, and made new blocks alone. -/
theorem law_post {f : Func} {s : ChangeSpec} {apart fresh : Bool} {W W' : World} {args : Array Value} {ds gs : List (DataW H)} {before : List MemPlace} (hl : laidOutB P = true) (hrow : rowed P f.params.toList = true) (hv : s.vars = [])
  (hW : DataW.Whole enc P f.params.toList s.vars apart W args.toList ds gs before) (hfn : s.fn H (ds ++ gs) = { results := [.lit (.bool true)], args := ds }) (hb : Below W.heap.size W W') {tb : TypeId} (hr : f.resultTypes = #[tb]) (ht : P.underlying tb = some .bool) :
  s.post enc P f apart fresh false false W args (.bool true) W' := by
 have hlt : ∀ p ∈ before, p.block < W.heap.size := fun p hp => hW.lt p hp
 obtain ⟨p, q, hA, hV, hpq, _, _⟩ := id hW
 rw [hv] at hV
 obtain ⟨rfl, rfl⟩ := trodVars_none hV
 rw [List.append_nil] at hpq
 subst hpq
 refine ⟨ds, [], _, [], _, [], hW, ?_, ?_, ?_, World.keptBut_mono (fun x hx => ⟨hx, .inr (.inl hx)⟩) (hb.frame (· ∈ before)), fun h => by cases h⟩
 ·
  rw [hfn, hr]
  exact trodAll_cons_mk (shut_bool ht _) trodAll_mk0
 ·
  rw [hfn]
  exact args_later hl hb hrow hA hlt
 ·
  rw [hfn, hv]
  exact rfl
end

end Go.Proofs.Ytgimcephbeajlaa

set_option linter.unusedSimpArgs false
namespace Go.Proofs.Ytgimcephbeajlaa
open Go.RowKit

theorem set5_ne {w : World} {b p : Nat} {v0 v1 v2 v3 v4 : Value} (h : b ≠ p) (o : Nat) : (((((w.setCell ⟨p, 0, none⟩ v0).setCell ⟨p, 1, none⟩ v1).setCell ⟨p, 2, none⟩ v2).setCell ⟨p, 3, none⟩ v3).setCell ⟨p, 4, none⟩ v4).cell? ⟨b, o, none⟩ = w.cell? ⟨b, o, none⟩ := by
 rw [cell_set_ne h, cell_set_ne h, cell_set_ne h, cell_set_ne h, cell_set_ne h]

end Go.Proofs.Ytgimcephbeajlaa

namespace Go.Proofs.Ytgimcephbeajlaa
open Go.RowKit

theorem ics_len (ys : List Int) : ∀ y ∈ ys, (ics y).length = 1 := fun _ _ => rfl

end Go.Proofs.Ytgimcephbeajlaa

set_option linter.unusedSimpArgs false
set_option linter.unusedVariables false
namespace Go.Proofs.Ytgimcephbeajlaa
open Go.RowKit

/-- Lexicographically before. -/
def M.lexlt : List Int → List Int → Bool
 | [], [] => false
 | [], _ :: _ => true
 | _ :: _, [] => false
 | a :: r, b :: s => decide (a < b) || (decide (a = b) && M.lexlt r s)

def M.Rise (sz : Nat) (frm : Int) : List Int → Prop
 | [] => True
 | a :: r => frm ≤ a ∧ a < sz ∧ M.Rise sz (a + 1) r

theorem M.mem_incr (sz : Nat) : ∀ (L frm : Nat) (x : List Int), x ∈ M.incr sz L frm ↔ x.length = L ∧ M.Rise sz frm x
 | 0, frm, x => by
  unfold M.incr
  constructor
  ·
   intro h
   rw [List.mem_singleton] at h
   subst h
   exact ⟨rfl, trivial⟩
  ·
   intro ⟨h, _⟩
   rw [List.eq_nil_of_length_eq_zero h]; simp
 | L + 1, frm, x => by
  unfold M.incr
  rw [List.mem_flatMap]
  constructor
  ·
   rintro ⟨k, hk, hx⟩
   obtain ⟨y, hy, rfl⟩ := List.mem_map.1 hx
   rw [List.mem_range'] at hk
   obtain ⟨i, hi, rfl⟩ := hk
   obtain ⟨h1, h2⟩ := (M.mem_incr sz L _ y).1 hy
   refine ⟨by simp [h1], ?_, ?_, ?_⟩
   ·
    omega
   ·
    omega
   ·
    exact_mod_cast h2
  ·
   rintro ⟨h1, h2⟩
   cases x with
   | nil => simp at h1
   | cons a r =>
    obtain ⟨h3, h4, h5⟩ := h2
    obtain ⟨k, rfl⟩ := Int.eq_ofNat_of_zero_le (show 0 ≤ a by omega)
    refine ⟨k, ?_, ?_⟩
    ·
     rw [List.mem_range']
     exact ⟨k - frm, by omega, by omega⟩
    ·
     refine List.mem_map.2 ⟨r, (M.mem_incr sz L (k + 1) r).2 ⟨by simpa using h1, ?_⟩, rfl⟩
     exact_mod_cast h5

theorem M.incr_sorted (sz : Nat) : ∀ (L frm : Nat), (M.incr sz L frm).Pairwise (fun x y => M.lexlt x y = true)
 | 0, frm => by unfold M.incr; simp
 | L + 1, frm => by
  unfold M.incr
  rw [List.flatMap_def, List.pairwise_flatten]
  constructor
  ·
   intro l hl
   obtain ⟨k, _, rfl⟩ := List.mem_map.1 hl
   rw [List.pairwise_map]
   refine (M.incr_sorted sz L (k + 1)).imp ?_
   intro a b hab
   simp [M.lexlt, hab]
  ·
   rw [List.pairwise_map]
   refine (List.pairwise_lt_range' (s := frm) (n := sz - frm) (step := 1)).imp ?_
   intro i j hij x hx y hy
   obtain ⟨x', _, rfl⟩ := List.mem_map.1 hx
   obtain ⟨y', _, rfl⟩ := List.mem_map.1 hy
   have : (i : Int) < (j : Int) := by omega
   simp [M.lexlt, this]

theorem M.lexlt_irrefl : ∀ x, M.lexlt x x = false
 | [] => rfl
 | a :: r => by simp [M.lexlt, M.lexlt_irrefl r]
theorem M.lexlt_asymm : ∀ x y, M.lexlt x y = true → M.lexlt y x = false
 | [], [], h => by cases h
 | [], _ :: _, _ => rfl
 | _ :: _, [], h => by cases h
 | a :: r, b :: s, h => by
  unfold M.lexlt at h ⊢
  simp only [Bool.or_eq_true, Bool.and_eq_true, decide_eq_true_eq] at h
  simp only [Bool.or_eq_false_iff, Bool.and_eq_false_iff, decide_eq_false_iff_not]
  rcases h with h | ⟨h, h'⟩
  ·
   exact ⟨by omega, .inl (by omega)⟩
  ·
   exact ⟨by omega, .inr (M.lexlt_asymm r s h')⟩

/-- x is shorter than y, or as long and lexicographically before it. -/
def M.shorter (x y : List Int) : Bool := decide (x.length < y.length) || (decide (x.length = y.length) && M.lexlt x y)

/-- What the search for the shortest list gives. -/
theorem M.first_spec (p : List Int → Bool) (sz : Nat) : ∀ (j L : Nat), (∃ x, L ≤ x.length ∧ x.length < L + j ∧ M.Rise sz 0 x ∧ p x = true) →
  M.Rise sz 0 (M.first p sz L j) ∧ p (M.first p sz L j) = true ∧ ∀ y, L ≤ y.length → M.Rise sz 0 y → p y = true → M.shorter y (M.first p sz L j) = false
 | 0, L, ⟨x, h1, h2, _⟩ => by omega
 | j + 1, L, ⟨x, h1, h2, h3, h4⟩ => by
  unfold M.first
  cases hf : (M.incr sz L 0).find? p with
  | none =>
   have hn := List.find?_eq_none.1 hf
   have hL : ∀ y, y.length = L → M.Rise sz 0 y → p y ≠ true := fun y e hr => by
    exact hn y ((M.mem_incr sz L 0 y).2 ⟨e, by exact_mod_cast hr⟩)
   have hne : x.length ≠ L := fun e => hL x e h3 h4
   obtain ⟨g1, g2, g3⟩ := M.first_spec p sz j (L + 1) ⟨x, by omega, by omega, h3, h4⟩
   refine ⟨g1, g2, fun y hy hr hp => g3 y ?_ hr hp⟩
   have : y.length ≠ L := fun e => hL y e hr hp
   omega
  | some z =>
   have hz := List.mem_of_find?_eq_some hf
   have hpz := List.find?_some hf
   obtain ⟨e1, e2⟩ := (M.mem_incr sz L 0 z).1 hz
   refine ⟨by exact_mod_cast e2, hpz, fun y hy hr hp => ?_⟩
   unfold M.shorter
   simp only [Bool.or_eq_false_iff, Bool.and_eq_false_iff, decide_eq_false_iff_not]
   refine ⟨by omega, ?_⟩
   by_cases e : y.length = z.length
   ·
    right
    have hym : y ∈ M.incr sz L 0 := (M.mem_incr sz L 0 y).2 ⟨by omega, by exact_mod_cast hr⟩
    obtain ⟨l1, l2, hab, has⟩ := (List.find?_eq_some_iff_append.1 hf).2
    have hs := M.incr_sorted sz L 0
    rw [hab] at hs hym
    rcases List.mem_append.1 hym with hm | hm
    ·
     have := has y hm
     rw [hp] at this; cases this
    ·
     rcases List.mem_cons.1 hm with rfl | hm
     ·
      exact M.lexlt_irrefl _
     ·
      have h5 := (List.pairwise_append.1 hs).2.1
      have h6 := (List.pairwise_cons.1 h5).1 y hm
      exact M.lexlt_asymm _ _ h6
   ·
    exact .inl e

theorem M.Rise_len {sz : Nat} : ∀ {x : List Int} {frm : Int}, M.Rise sz frm x → 0 ≤ frm → x = [] ∨ frm + x.length ≤ sz
 | [], _, _, _ => .inl rfl
 | a :: r, frm, h, h0 => by
  right
  obtain ⟨h1, h2, h3⟩ := h
  rcases M.Rise_len h3 (by omega) with rfl | h4
  ·
   simp; omega
  ·
   rw [List.length_cons]; omega

theorem M.shortest_spec {p : List Int → Bool} {sz : Nat} {x : List Int} (h1 : M.Rise sz 0 x) (h2 : p x = true) :
  M.Rise sz 0 (M.shortest p sz) ∧ p (M.shortest p sz) = true ∧ ∀ y, M.Rise sz 0 y → p y = true → M.shorter y (M.shortest p sz) = false := by
 have hl : x.length < 0 + (sz + 1) := by
  rcases M.Rise_len h1 (by omega) with rfl | h
  ·
   simp
  ·
   omega
 obtain ⟨g1, g2, g3⟩ := M.first_spec p sz (sz + 1) 0 ⟨x, by omega, hl, h1, h2⟩
 exact ⟨g1, g2, fun y hr hp => g3 y (by omega) hr hp⟩

theorem M.first_none (p : List Int → Bool) (sz : Nat) (h : ∀ x, M.Rise sz 0 x → p x = false) : ∀ (j L : Nat), M.first p sz L j = []
 | 0, L => rfl
 | j + 1, L => by
  unfold M.first
  have : (M.incr sz L 0).find? p = none := by
   rw [List.find?_eq_none]
   intro x hx
   have := h x (by have := ((M.mem_incr sz L 0 x).1 hx).2; exact_mod_cast this)
   simp [this]
  rw [this]
  exact M.first_none p sz h j (L + 1)

theorem M.Rise_mem {sz : Nat} : ∀ {x : List Int} {frm : Int}, M.Rise sz frm x → ∀ y ∈ x, frm ≤ y ∧ y < sz
 | a :: r, frm, ⟨h1, h2, h3⟩, y, hy => by
  rcases List.mem_cons.1 hy with rfl | hy
  ·
   exact ⟨h1, h2⟩
  ·
   have := M.Rise_mem h3 y hy
   omega

theorem M.Rise_range (sz : Nat) : ∀ (n frm : Nat), frm + n ≤ sz → M.Rise sz frm ((List.range' frm n).map fun (k : Nat) => (k : Int))
 | 0, _, _ => trivial
 | n + 1, frm, h => by
  rw [List.range'_succ, List.map_cons]
  refine ⟨Int.le_refl _, by omega, ?_⟩
  have := M.Rise_range sz n (frm + 1) (by omega)
  exact_mod_cast this

/-- What is kept of a sheet. -/
theorem M.keep_get (s : List Int) : ∀ (rows k : List Int) (r : Nat), k.length = 7 → r < 7 → (∀ x ∈ rows, 0 ≤ x ∧ x ≤ 6) →
  (M.keep s k rows).getD r 0 = if (r : Int) ∈ rows then s.getD r 0 else k.getD r 0
 | [], k, r, _, _, _ => by simp [M.keep]
 | x :: rest, k, r, hk, hr, hx => by
  unfold M.keep
  obtain ⟨x0, x6⟩ := hx x (by simp)
  rw [M.keep_get s rest _ r (by simpa using hk) hr (fun y hy => hx y (by simp [hy])), getD_set (by omega)]
  by_cases h1 : (r : Int) ∈ rest
  ·
   rw [if_pos h1, if_pos (by simp [h1])]
  ·
   rw [if_neg h1]
   by_cases h2 : r = x.toNat
   ·
    have h3 : (r : Int) = x := by omega
    rw [if_pos h2, if_pos (by simp [h3]), h2]
   ·
    have h3 : (r : Int) ≠ x := by omega
    rw [if_neg h2, if_neg (by simp [h3, h1])]

theorem ext7 {a b : List Int} (ha : a.length = 7) (hb : b.length = 7) (h : ∀ r, r < 7 → a.getD r 0 = b.getD r 0) : a = b := by
 refine List.ext_getElem (by omega) fun i h1 h2 => ?_
 have := h i (by omega)
 rw [List.getD_eq_getElem?_getD, List.getD_eq_getElem?_getD, List.getElem?_eq_getElem h1, List.getElem?_eq_getElem h2] at this
 simpa using this

theorem M.kept_eq {t u rows : List Int} (hx : ∀ x ∈ rows, 0 ≤ x ∧ x ≤ 6) : M.kept t rows = M.kept u rows ↔ ∀ r ∈ rows, t.getD r.toNat 0 = u.getD r.toNat 0 := by
 unfold M.kept
 constructor
 ·
  intro h r hr
  obtain ⟨h0, h6⟩ := hx r hr
  have h1 := M.keep_get t rows M.blank r.toNat rfl (by omega) hx
  have h2 := M.keep_get u rows M.blank r.toNat rfl (by omega) hx
  rw [if_pos (by rw [show ((r.toNat : Nat) : Int) = r from by omega]; exact hr)] at h1 h2
  rw [← h1, ← h2, h]
 ·
  intro h
  refine ext7 (by rw [M.keep_len]; rfl) (by rw [M.keep_len]; rfl) fun r hr => ?_
  rw [M.keep_get t rows M.blank r rfl hr hx, M.keep_get u rows M.blank r rfl hr hx]
  split
  ·
   rename_i hm
   have := h _ hm
   simpa using this
  ·
   rfl

end Go.Proofs.Ytgimcephbeajlaa

namespace Go.Proofs.Ytgimcephbeajlaa
open Go.RowKit

theorem M.pad_get {l : List Int} {r : Nat} (h : r < l.length) : (M.pad l).getD r 0 = l.getD r 0 := by
 unfold M.pad
 rw [List.getD_eq_getElem?_getD, List.getElem?_append_left h, List.getD_eq_getElem?_getD]

theorem ext_get {a b : List Int} (hl : a.length = b.length) (h : ∀ r, r < a.length → a.getD r 0 = b.getD r 0) : a = b := by
 refine List.ext_getElem hl fun i h1 h2 => ?_
 have := h i h1
 rw [List.getD_eq_getElem?_getD, List.getD_eq_getElem?_getD, List.getElem?_eq_getElem h1, List.getElem?_eq_getElem h2] at this
 simpa using this

theorem M.pad_inj {a b : List Int} (hl : a.length = b.length) (h : M.pad a = M.pad b) : a = b := by
 refine ext_get hl fun r hr => ?_
 rw [← M.pad_get hr, ← M.pad_get (l := b) (by omega), h]

end Go.Proofs.Ytgimcephbeajlaa

namespace Go.Proofs.Ytgimcephbeajlaa
open Go.RowKit

theorem M.nthK_mem (D : Nat) (hD : 0 < D) : ∀ (r n : Nat) (y : Int), y ∈ M.nthK D r n → -1 ≤ y ∧ y < (D : Int) - 1
 | 0, _, _, h => by simp [M.nthK] at h
 | r + 1, n, y, h => by
  rw [M.nthK] at h
  rcases List.mem_cons.1 h with rfl | h
  ·
   have := Nat.mod_lt n hD
   omega
  ·
   exact M.nthK_mem D hD r _ y h

theorem M.nthK_surj (D : Nat) (hD : 0 < D) : ∀ (l : List Int), (∀ y ∈ l, -1 ≤ y ∧ y < (D : Int) - 1) → ∃ n, n < D ^ l.length ∧ M.nthK D l.length n = l
 | [], _ => ⟨0, by simp, rfl⟩
 | a :: l, h => by
  obtain ⟨n, hn, he⟩ := M.nthK_surj D hD l (fun y hy => h y (by simp [hy]))
  obtain ⟨h1, h2⟩ := h a (by simp)
  have ha : (a + 1).toNat < D := by omega
  refine ⟨(a + 1).toNat + D * n, ?_, ?_⟩
  ·
   rw [List.length_cons, Nat.pow_succ]
   have : D * n + D ≤ D * D ^ l.length := by rw [← Nat.mul_succ]; exact Nat.mul_le_mul_left _ hn
   rw [Nat.mul_comm (D ^ _)]
   omega
  ·
   rw [List.length_cons, M.nthK, Nat.add_mul_mod_self_left, Nat.mod_eq_of_lt ha, Nat.add_mul_div_left _ _ hD, Nat.div_eq_of_lt ha, Nat.zero_add, he]
   congr 1
   omega

theorem M.count_pad {l : List Int} {x fr tt : Int} (h0 : 0 ≤ tt) (h : tt < l.length) : M.count (M.pad l) x fr tt = M.count l x fr tt := by
 unfold M.count M.pad
 by_cases hf : fr.toNat ≤ l.length
 ·
  rw [List.drop_append_of_le_length hf, List.take_append_of_le_length (by rw [List.length_drop]; omega)]
 ·
  rw [show tt.toNat + 1 - fr.toNat = 0 from by omega]; simp

theorem M.most_ge (a : Int) : ∀ (l : List Int), a ≤ M.most a l ∧ ∀ y ∈ l, y ≤ M.most a l
 | [] => ⟨Int.le_refl _, by simp⟩
 | b :: l => by
  unfold M.most
  by_cases hab : a < b
  ·
   rw [if_pos hab]
   obtain ⟨h1, h2⟩ := M.most_ge b l
   refine ⟨by omega, fun y hy => ?_⟩
   rcases List.mem_cons.1 hy with rfl | hy
   ·
    exact h1
   ·
    exact h2 y hy
  ·
   rw [if_neg hab]
   obtain ⟨h1, h2⟩ := M.most_ge a l
   refine ⟨h1, fun y hy => ?_⟩
   rcases List.mem_cons.1 hy with rfl | hy
   ·
    omega
   ·
    exact h2 y hy
theorem M.most_mem (a : Int) : ∀ (l : List Int), M.most a l = a ∨ M.most a l ∈ l
 | [] => .inl rfl
 | b :: l => by
  unfold M.most
  rcases M.most_mem (if a < b then b else a) l with h | h
  ·
   rw [h]
   split
   ·
    right; simp
   ·
    left; rfl
  ·
   right; simp [h]

theorem M.widen_spec : ∀ (l : List Int) (r : M.Rg), (M.widen r l).lo ≤ r.lo ∧ r.hi ≤ (M.widen r l).hi ∧ (∀ n ∈ l, (M.widen r l).lo ≤ n ∧ n ≤ (M.widen r l).hi) ∧ ((M.widen r l).lo = r.lo ∨ (M.widen r l).lo ∈ l) ∧ ((M.widen r l).hi = r.hi ∨ (M.widen r l).hi ∈ l)
 | [], r => ⟨Int.le_refl _, Int.le_refl _, by simp, .inl rfl, .inl rfl⟩
 | a :: l, r => by
  unfold M.widen
  obtain ⟨h1, h2, h3, h4, h5⟩ := M.widen_spec l (M.wider r a)
  have w1 : (M.wider r a).lo = if a < r.lo then a else r.lo := rfl
  have w2 : (M.wider r a).hi = if r.hi < a then a else r.hi := rfl
  refine ⟨by split at w1 <;> omega, by split at w2 <;> omega, fun n hn => ?_, ?_, ?_⟩
  ·
   rcases List.mem_cons.1 hn with rfl | hn
   ·
    constructor
    ·
     split at w1 <;> omega
    ·
     split at w2 <;> omega
   ·
    exact h3 n hn
  ·
   rcases h4 with h4 | h4
   ·
    rw [h4, w1]
    split
    ·
     right; simp
    ·
     left; rfl
   ·
    right; simp [h4]
  ·
   rcases h5 with h5 | h5
   ·
    rw [h5, w2]
    split
    ·
     right; simp
    ·
     left; rfl
   ·
    right; simp [h5]

end Go.Proofs.Ytgimcephbeajlaa


namespace Go.Proofs.Ytgimcephbeajlaa
open Go.RowKit

theorem bits_small : ((List.range 128).all fun (a : Nat) => (List.range 128).all fun (b : Nat) => decide (bits .and .i64 (a : Int) (b : Int) = ((a &&& b : Nat) : Int)) && (decide (bits .or .i64 (a : Int) (b : Int) = ((a ||| b : Nat) : Int)) && decide (bits .andNot .i64 (a : Int) (b : Int) = ((a ^^^ (a &&& b) : Nat) : Int)))) = true := by decide +kernel

theorem bits_three {a b : Nat} (ha : a < 128) (hb : b < 128) : bits .and .i64 (a : Int) (b : Int) = ((a &&& b : Nat) : Int) ∧ bits .or .i64 (a : Int) (b : Int) = ((a ||| b : Nat) : Int) ∧ bits .andNot .i64 (a : Int) (b : Int) = ((a ^^^ (a &&& b) : Nat) : Int) := by
 have h := bits_small
 rw [List.all_eq_true] at h
 have h1 := h a (List.mem_range.2 ha)
 rw [List.all_eq_true] at h1
 have h2 := h1 b (List.mem_range.2 hb)
 simpa [Bool.and_eq_true, decide_eq_true_eq] using h2

end Go.Proofs.Ytgimcephbeajlaa

namespace Go.Proofs.Ytgimcephbeajlaa
open Go.RowKit

/-- The numbers of a number's bits. -/
def M.bitsK (b : Nat) : Nat → Nat → List Int
 | _, 0 => []
 | p, j + 1 => (if b / 2 ^ p % 2 = 1 then [(p : Int)] else []) ++ M.bitsK b (p + 1) j
def M.bits (b : Nat) : List Int := M.bitsK b 0 7

theorem M.bitsK_none {b : Nat} : ∀ (j p : Nat), b / 2 ^ p = 0 → M.bitsK b p j = []
 | 0, _, _ => rfl
 | j + 1, p, h => by
  have h2 : b / 2 ^ (p + 1) = 0 := by rw [Nat.pow_succ, ← Nat.div_div_eq_div_mul, h]
  rw [M.bitsK, M.bitsK_none j (p + 1) h2, h]
  rfl

set_option maxRecDepth 100000 in
set_option maxHeartbeats 1000000 in
theorem Bits_c (b : Nat) (hb : b ≤ 127) (w : World) :
  Calls Try.prog 63 #[.int .i64 b] w fun e w' => (∃ B d, e = .returned (.slice B (M.bits b).length d) ∧ Sl ics 1 w' w'.heap.size B (M.bits b).length d (M.bits b)) ∧ Ev w w' := by
 obtain ⟨i0, hi0, hz0, hz1, hz2⟩ := info_parts info3
 go_enter Try.func63, Try.ntmps63
 go_wp2
 go_loopw [3, 4] (fun v i wr => ∃ k : Nat, ∃ pre : List Int, i = .int .i64 k ∧ k ≤ 7 ∧ Ev w wr ∧ wr.ownsRow w.heap.size 3 1 v pre.length (pre.flatMap ics) ∧ pre.length ≤ k ∧ Hid (pre ++ M.bitsK b k (7 - k) = M.bits b)) (fun _ i _ => 8 - (intOf i).toNat)
 case atStart => exact ⟨0, [], rfl, by omega, Ev.refl _, World.ownsRow_nil _ _ _ _, by simp, hid rfl⟩
 case round =>
  obtain ⟨k, pre, rfl, hk, hB, hown, hpk, hp⟩ := hrel
  have hbs := hB.size
  have e1 : (b : Int) / 2 ^ k = ((b / 2 ^ k : Nat) : Int) := by simp
  have hbq : k = 7 → b / 2 ^ k = 0 := by rintro rfl; omega
  have hnone := M.bitsK_none (b := b) (7 - k) k
  have hsucc : ∀ j, M.bitsK b k (j + 1) = (if b / 2 ^ k % 2 = 1 then [(k : Int)] else []) ++ M.bitsK b (k + 1) j := fun _ => rfl
  generalize b / 2 ^ k = q at e1 hbq hnone hsucc
  have HBQ := hid hbq
  have HNONE := hid hnone
  have HSUCC := hid hsucc
  clear hbq hnone hsucc
  by_cases hq : 0 < q
  ·
   have hk7 : k < 7 := by
    rcases Nat.lt_or_ge k 7 with h | h
    ·
     exact h
    ·
     have := HBQ.out (by omega)
     omega
   have hp2 := hp.out
   rw [show 7 - k = (7 - (k + 1)) + 1 from by omega, HSUCC.out] at hp2
   have HP2 := hid hp2
   have hqI : (0 : Int) < q := by omega
   clear hp2
   by_cases hr : q % 2 = 1
   ·
    have hbe : ((q : Int) % 2 == 1) = true := by simp; omega
    have HR := hid hr
    clear hr
    go_wp2_with (at_builtin; refine wpList_append_own _ rfl (.tmp 18) (.tmp 20) 25 rfl w.heap.size 3 i0 _ 1 8 Try.underlying25 hi0 hz0 hz1 hz2 rfl (by decide) _ pre.length (pre.flatMap ics) rfl (hown.alloc _) ⟨wr.heap.size, 0, none⟩ 1 1 [.int .i64 k] rfl rfl (news_in (alloc1 wr _).1) (by simp [Value.oneCell']) (by unfold maxLen; omega) (by omega) (by simp; omega) ?_; intro v' w1 hown' hgrow _)
    have hE1 := Ev.grown (hB.alloc _) hgrow (fun k e => (hown.lt k e).1)
    refine ⟨⟨k + 1, pre ++ [(k : Int)], by go_num, by omega, hE1, ?_, by simp; omega, hid ?_⟩, by simp [intOf]; omega⟩
    ·
     rw [List.flatMap_append, List.length_append]
     exact hown'
    ·
     have := HP2.out
     rw [if_pos HR.out] at this
     rw [List.append_assoc]
     exact this
   ·
    have hbe : ((q : Int) % 2 == 1) = false := by simp; omega
    have HR := hid hr
    clear hr
    go_wp2
    refine ⟨⟨k + 1, pre, by go_num, by omega, hB, hown, by omega, hid ?_⟩, by simp [intOf]; omega⟩
    have := HP2.out
    rw [if_neg HR.out] at this
    exact this
  ·
   have hq0 : q = 0 := by omega
   have hp2 := hp.out
   rw [HNONE.out hq0, List.append_nil] at hp2
   subst hq0
   obtain ⟨B2, d2, rfl, hsl⟩ := Sl.of_own (enc := ics) (sz := 1) (by decide) (fun _ _ => rfl) (by omega) hown
   have HS := hid hsl
   have HP := hid hp2
   clear hsl hp2 hown hpk hp
   go_wp2
   go_ret
   rw [← HP.out]
   exact ⟨⟨B2, d2, rfl, HS.out⟩, hB⟩

end Go.Proofs.Ytgimcephbeajlaa

namespace Go.Proofs.Ytgimcephbeajlaa
open Go.RowKit

set_option maxRecDepth 100000 in
set_option maxHeartbeats 1000000 in
theorem Before_c (A B : Option Addr) (n c m d : Nat) (a b : List Int) (w : World) (ha : Sl ics 1 w w.heap.size A n c a) (hb : Sl ics 1 w w.heap.size B m d b) :
  Calls Try.prog 88 #[.slice A n c, .slice B m d] w fun e w' => e = .returned (.bool (M.lexlt a b)) ∧ Ev w w' := by
 have hsm := ha.small
 have hsm' := hb.small
 have HLA := hid ha.len
 have HLB := hid hb.len
 go_enter Try.func88, Try.ntmps88
 go_wp2
 go_loopw [5] (fun i wr => ∃ k : Nat, i = .int .i64 k ∧ k ≤ n ∧ k ≤ m ∧ Ev w wr ∧ Hid (M.lexlt (a.drop k) (b.drop k) = M.lexlt a b)) (fun i _ => n - (intOf i).toNat)
 case atStart => exact ⟨0, rfl, by omega, by omega, Ev.refl _, hid rfl⟩
 case round =>
  obtain ⟨k, rfl, hk, hk', hE, HT⟩ := hrel
  by_cases hlt : k < n
  ·
   by_cases hlt' : k < m
   ·
    obtain ⟨b1, o1, x, rfl, hb1, hx, hxd, e1⟩ := ha.int hE hlt
    obtain ⟨b2, o2, y, rfl, hb2, hy, hyd, e2⟩ := hb.int hE hlt'
    have ht := HT.out
    rw [hxd, hyd] at ht
    have HT2 := hid ht
    clear hx hy hxd hyd ht
    by_cases hxy : x = y
    ·
     have hne2 : (x != y) = false := by simpa using hxy
     have HXY := hid hxy
     clear hxy
     go_wp2_with (go_quiet (fail))
     refine ⟨⟨k + 1, by go_num, by omega, by omega, hE.drewN _, hid ?_⟩, by simp [intOf]; omega⟩
     rw [← HT2.out, HXY.out]
     simp [M.lexlt]
    ·
     have hne2 : (x != y) = true := by simpa using hxy
     by_cases hl : x < y
     ·
      have HV := hid (show M.lexlt a b = true by rw [← HT2.out]; simp [M.lexlt, hl])
      clear hxy
      go_wp2_with (go_quiet (fail))
      go_ret
      exact ⟨ret_bool HV.out.symm, by first | exact (hE.drewN _).drewN _ | exact hE.drewN _⟩
     ·
      have HV := hid (show M.lexlt a b = false by rw [← HT2.out]; simp [M.lexlt, hl, hxy])
      clear hxy
      go_wp2_with (go_quiet (fail))
      go_ret
      exact ⟨ret_bool HV.out.symm, by first | exact (hE.drewN _).drewN _ | exact hE.drewN _⟩
   ·
    have hv : M.lexlt a b = false := by
     rw [← HT.out, hb.done hlt']
     cases a.drop k <;> rfl
    have HV := hid hv
    clear hv
    go_wp2
    go_ret
    exact ⟨ret_bool (by rw [HV.out]; simp; omega), hE⟩
  ·
   have hv : M.lexlt a b = decide (n < m) := by
    rw [← HT.out, ha.done hlt]
    by_cases hlt' : k < m
    ·
     obtain ⟨_, _, y, _, _, _, hyd, _⟩ := hb.at_ hE hlt'
     rw [hyd]
     have : n < m := by omega
     simp [M.lexlt, this]
    ·
     rw [hb.done hlt']
     have : ¬ n < m := by omega
     simp [M.lexlt, this]
   have HV := hid hv
   clear hv
   go_wp2
   go_ret
   exact ⟨ret_bool (by rw [HV.out]), hE⟩

set_option maxRecDepth 100000 in
set_option maxHeartbeats 1000000 in
theorem Shorter_c (A B : Option Addr) (n c m d : Nat) (a b : List Int) (w : World) (ha : Sl ics 1 w w.heap.size A n c a) (hb : Sl ics 1 w w.heap.size B m d b) :
  Calls Try.prog 62 #[.slice A n c, .slice B m d] w fun e w' => e = .returned (.bool (M.shorter a b)) ∧ Ev w w' := by
 have hsm := ha.small
 have hsm' := hb.small
 have HBF := hid fun W (hE : Ev w W) => Before_c A B n c m d a b W (ha.ev hE) (hb.ev hE)
 have hv : M.shorter a b = (decide (n < m) || (decide (n = m) && M.lexlt a b)) := by unfold M.shorter; rw [ha.len, hb.len]
 by_cases h1 : n < m
 ·
  have HV := hid (show M.shorter a b = true by rw [hv]; simp [h1])
  clear hv
  go_enter Try.func62, Try.ntmps62
  go_wp2
  go_ret
  exact ⟨ret_bool HV.out.symm, Ev.refl _⟩
 ·
  by_cases h2 : n = m
  ·
   subst h2
   have HV := hid (show M.shorter a b = M.lexlt a b by rw [hv]; simp)
   clear hv h1
   go_enter Try.func62, Try.ntmps62
   go_wp2_with (go_at_call 88; ((with_reducible refine (HBF.out _ (Ev.refl _)).mono ?_); rintro e w1 ⟨rfl, hb1⟩))
   go_ret
   exact ⟨ret_bool HV.out.symm, hb1⟩
  ·
   have HV := hid (show M.shorter a b = false by rw [hv]; simp [h1, h2])
   have hne : ((n : Int) == (m : Int)) = false := by simp; omega
   clear hv h2
   go_enter Try.func62, Try.ntmps62
   go_wp2
   go_ret
   exact ⟨ret_bool HV.out.symm, Ev.refl _⟩

/-- 2 to the power of at most five, less one. -/
theorem wrap_pow {n : Nat} (hn : n ≤ 7) : wrap64 (2 ^ n) = 2 ^ n ∧ wrap64 ((2 : Int) ^ n - 1) = ((2 ^ n - 1 : Nat) : Int) := by
 have : n = 0 ∨ n = 1 ∨ n = 2 ∨ n = 3 ∨ n = 4 ∨ n = 5 ∨ n = 6 ∨ n = 7 := by omega
 rcases this with rfl | rfl | rfl | rfl | rfl | rfl | rfl | rfl <;> decide +kernel

def M.can (all : List Nat) (t : Nat) : Bool := all.any fun a => decide (a &&& t = t)
def ncs (a : Nat) : List Value := [.int .i64 a]

end Go.Proofs.Ytgimcephbeajlaa

namespace Go.Proofs.Ytgimcephbeajlaa
open Go.RowKit

/-- The first number of tallies that are not right together. -/
def M.rfirst (all : List Nat) : Nat → Nat → Int
 | _, 0 => -1
 | k, j + 1 => if M.can all (2 ^ (k + 1) - 1) then M.rfirst all (k + 1) j else (k : Int)

theorem wrap_pow2 {n : Nat} (hn : n ≤ 4) : wrap64 (2 * 2 ^ n) = 2 * 2 ^ n ∧ wrap64 (2 * (2 : Int) ^ n - 1) = ((2 ^ (n + 1) - 1 : Nat) : Int) := by
 have : n = 0 ∨ n = 1 ∨ n = 2 ∨ n = 3 ∨ n = 4 := by omega
 rcases this with rfl | rfl | rfl | rfl | rfl <;> decide +kernel
theorem pow_lt128 {n : Nat} (hn : n ≤ 7) : 2 ^ n - 1 < 128 := by
 have : n = 0 ∨ n = 1 ∨ n = 2 ∨ n = 3 ∨ n = 4 ∨ n = 5 ∨ n = 6 ∨ n = 7 := by omega
 rcases this with rfl | rfl | rfl | rfl | rfl | rfl | rfl | rfl <;> decide

/-- The shortest of some lists: those of the numbers from b on, by a test. -/
def M.pick (p : Nat → Bool) : Nat → Nat → List Int → List Int
 | _, 0, best => best
 | b, j + 1, best => M.pick p (b + 1) j (if M.shorter (M.bits b) best && p b then M.bits b else best)

end Go.Proofs.Ytgimcephbeajlaa

namespace Go.Proofs.Ytgimcephbeajlaa
open Go.RowKit

theorem M.lexlt_trans : ∀ {x y z : List Int}, M.lexlt x y = true → M.lexlt y z = true → M.lexlt x z = true
 | [], _ :: _, _ :: _, _, _ => rfl
 | [], [], _, h, _ => by cases h
 | [], _ :: _, [], _, h => by cases h
 | _ :: _, [], _, h, _ => by cases h
 | _ :: _, _ :: _, [], _, h => by cases h
 | a :: r, b :: s, c :: t, h1, h2 => by
  simp only [M.lexlt, Bool.or_eq_true, Bool.and_eq_true, decide_eq_true_eq] at h1 h2 ⊢
  rcases h1 with h1 | ⟨h1, h1'⟩
  ·
   rcases h2 with h2 | ⟨h2, _⟩
   ·
    left; omega
   ·
    left; omega
  ·
   rcases h2 with h2 | ⟨h2, h2'⟩
   ·
    left; omega
   ·
    exact .inr ⟨by omega, M.lexlt_trans h1' h2'⟩
theorem M.lexlt_tri : ∀ (x y : List Int), M.lexlt x y = true ∨ x = y ∨ M.lexlt y x = true
 | [], [] => .inr (.inl rfl)
 | [], _ :: _ => .inl rfl
 | _ :: _, [] => .inr (.inr rfl)
 | a :: r, b :: s => by
  simp only [M.lexlt, Bool.or_eq_true, Bool.and_eq_true, decide_eq_true_eq, List.cons.injEq]
  rcases Int.lt_trichotomy a b with h | h | h
  ·
   exact .inl (.inl h)
  ·
   rcases M.lexlt_tri r s with h' | h' | h'
   ·
    exact .inl (.inr ⟨h, h'⟩)
   ·
    exact .inr (.inl ⟨h, h'⟩)
   ·
    exact .inr (.inr (.inr ⟨h.symm, h'⟩))
  ·
   exact .inr (.inr (.inl h))

theorem M.shorter_iff (x y : List Int) : M.shorter x y = true ↔ x.length < y.length ∨ (x.length = y.length ∧ M.lexlt x y = true) := by
 unfold M.shorter
 simp only [Bool.or_eq_true, Bool.and_eq_true, decide_eq_true_eq]
theorem M.shorter_trans {x y z : List Int} (h1 : M.shorter x y = true) (h2 : M.shorter y z = true) : M.shorter x z = true := by
 rw [M.shorter_iff] at h1 h2 ⊢
 rcases h1 with h1 | ⟨h1, h1'⟩
 ·
  rcases h2 with h2 | ⟨h2, _⟩
  ·
   left; omega
  ·
   left; omega
 ·
  rcases h2 with h2 | ⟨h2, h2'⟩
  ·
   left; omega
  ·
   exact .inr ⟨by omega, M.lexlt_trans h1' h2'⟩
theorem M.shorter_tri (x y : List Int) : M.shorter x y = true ∨ x = y ∨ M.shorter y x = true := by
 rw [M.shorter_iff, M.shorter_iff]
 rcases Nat.lt_trichotomy x.length y.length with h | h | h
 ·
  exact .inl (.inl h)
 ·
  rcases M.lexlt_tri x y with h' | h' | h'
  ·
   exact .inl (.inr ⟨h, h'⟩)
  ·
   exact .inr (.inl h')
  ·
   exact .inr (.inr (.inr ⟨h.symm, h'⟩))
 ·
  exact .inr (.inr (.inl h))
theorem M.shorter_irrefl (x : List Int) : M.shorter x x = false := by
 unfold M.shorter
 simp [M.lexlt_irrefl]

/-- What the loop over all sets gives. -/
theorem M.pick_spec (p : Nat → Bool) : ∀ (j b : Nat) (best : List Int),
  (M.pick p b j best = best ∨ ∃ c, b ≤ c ∧ c < b + j ∧ p c = true ∧ M.pick p b j best = M.bits c) ∧ M.shorter best (M.pick p b j best) = false ∧ ∀ c, b ≤ c → c < b + j → p c = true → M.shorter (M.bits c) (M.pick p b j best) = false
 | 0, b, best => ⟨.inl rfl, M.shorter_irrefl _, fun c h1 h2 => by omega⟩
 | j + 1, b, best => by
  rw [M.pick]
  cases hb : (M.shorter (M.bits b) best && p b) with
  | true =>
   simp only [Bool.and_eq_true] at hb
   obtain ⟨h1, h2, h3⟩ := M.pick_spec p j (b + 1) (M.bits b)
   rw [if_pos rfl]
   generalize M.pick p (b + 1) j (M.bits b) = r at h1 h2 h3
   refine ⟨?_, ?_, fun c hc hc2 hp => ?_⟩
   ·
    rcases h1 with h1 | ⟨c, h4, h5, h6, h7⟩
    ·
     exact .inr ⟨b, Nat.le_refl _, by omega, hb.2, h1⟩
    ·
     exact .inr ⟨c, by omega, by omega, h6, h7⟩
   ·
    cases hs : M.shorter best r with
    | false => rfl
    | true => rw [M.shorter_trans hb.1 hs] at h2; cases h2
   ·
    rcases Nat.eq_or_lt_of_le hc with rfl | hlt
    ·
     exact h2
    ·
     exact h3 c (by omega) (by omega) hp
  | false =>
   obtain ⟨h1, h2, h3⟩ := M.pick_spec p j (b + 1) best
   rw [if_neg (by decide)]
   generalize M.pick p (b + 1) j best = r at h1 h2 h3
   refine ⟨?_, h2, fun c hc hc2 hp => ?_⟩
   ·
    rcases h1 with h1 | ⟨c, h4, h5, h6, h7⟩
    ·
     exact .inl h1
    ·
     exact .inr ⟨c, by omega, by omega, h6, h7⟩
   ·
    rcases Nat.eq_or_lt_of_le hc with rfl | hlt
    ·
     rw [hp, Bool.and_true] at hb
     cases hs : M.shorter (M.bits b) r with
     | false => rfl
     | true =>
      rcases M.shorter_tri (M.bits b) best with h | h | h
      ·
       rw [h] at hb; cases hb
      ·
       rw [h, h2] at hs; cases hs
      ·
       rw [M.shorter_trans h hs] at h2; cases h2
    ·
     exact h3 c (by omega) (by omega) hp

/-- The number whose bits are a list. -/
def M.mask2 (x : List Int) : Nat := x.foldl (fun a i => a + 2 ^ i.toNat) 0
theorem incr_bits : ((List.range 8).all fun sz => (List.range (sz + 1)).all fun L => (M.incr sz L 0).all fun x => decide (M.bits (M.mask2 x) = x) && decide (M.mask2 x < 2 ^ sz)) = true := by decide +kernel
theorem bits_incr : ((List.range 8).all fun sz => (List.range (2 ^ sz)).all fun b => (M.incr sz (M.bits b).length 0).contains (M.bits b)) = true := by decide +kernel
theorem M.rise_bits {sz : Nat} (hsz : sz ≤ 7) {x : List Int} (h : M.Rise sz 0 x) : ∃ b, b < 2 ^ sz ∧ M.bits b = x := by
 have hl : x.length ≤ sz := by
  rcases M.Rise_len h (by omega) with rfl | h2
  ·
   simp
  ·
   omega
 have h0 := incr_bits
 rw [List.all_eq_true] at h0
 have h1 := h0 sz (List.mem_range.2 (by omega))
 rw [List.all_eq_true] at h1
 have h2 := h1 x.length (List.mem_range.2 (by omega))
 rw [List.all_eq_true] at h2
 have h3 := h2 x ((M.mem_incr sz x.length 0 x).2 ⟨rfl, by exact_mod_cast h⟩)
 simp only [Bool.and_eq_true, decide_eq_true_eq] at h3
 exact ⟨_, h3.2, h3.1⟩
theorem M.bits_rise {sz : Nat} (hsz : sz ≤ 7) {b : Nat} (h : b < 2 ^ sz) : M.Rise sz 0 (M.bits b) := by
 have h0 := bits_incr
 rw [List.all_eq_true] at h0
 have h1 := h0 sz (List.mem_range.2 (by omega))
 rw [List.all_eq_true] at h1
 have h2 := h1 b (List.mem_range.2 h)
 rw [List.contains_iff_mem] at h2
 have := ((M.mem_incr sz _ 0 _).1 h2).2
 exact_mod_cast this

/-- The search of the program and the loop over all sets give the same. -/
theorem M.shortest_pick {p : List Int → Bool} {q : Nat → Bool} {sz : Nat} (hsz : sz ≤ 7) (hpq : ∀ b, b < 2 ^ sz → p (M.bits b) = q b) (hall : q (2 ^ sz - 1) = true) :
  M.shortest p sz = M.pick q 0 (2 ^ sz - 1 + 1) (M.bits (2 ^ sz - 1)) := by
 have hP : 0 < 2 ^ sz := Nat.pow_pos (by omega)
 obtain ⟨g1, g2, g3⟩ := M.shortest_spec (p := p) (M.bits_rise hsz (b := 2 ^ sz - 1) (by omega)) (by rw [hpq _ (by omega)]; exact hall)
 obtain ⟨h1, h2, h3⟩ := M.pick_spec q (2 ^ sz - 1 + 1) 0 (M.bits (2 ^ sz - 1))
 generalize M.pick q 0 (2 ^ sz - 1 + 1) (M.bits (2 ^ sz - 1)) = r at h1 h2 h3
 obtain ⟨b, hb, he⟩ := M.rise_bits hsz g1
 have hr : ∃ c, c < 2 ^ sz ∧ q c = true ∧ r = M.bits c := by
  rcases h1 with h1 | ⟨c, _, h5, h6, h7⟩
  ·
   exact ⟨_, by omega, hall, h1⟩
  ·
   exact ⟨c, by omega, h6, h7⟩
 obtain ⟨c, hc, hqc, rfl⟩ := hr
 have k1 := g3 (M.bits c) (M.bits_rise hsz hc) (by rw [hpq c hc]; exact hqc)
 have k2 := h3 b (by omega) (by omega) (by rw [← hpq b hb, he]; exact g2)
 rw [he] at k2
 rcases M.shorter_tri (M.shortest p sz) (M.bits c) with h | h | h
 ·
  rw [h] at k2; cases k2
 ·
  exact h
 ·
  rw [h] at k1; cases k1

end Go.Proofs.Ytgimcephbeajlaa

namespace Go.Proofs.Ytgimcephbeajlaa
open Go.RowKit

def M.notUp (prev : Option Int) (x : Int) : Bool := match prev with | none => false | some p => decide (x ≤ p)

theorem or_fact7 {a i : Nat} (ha : a < 128) (hi : i ≤ 6) : wrap64 (2 ^ i) = 2 ^ i ∧ bits .or .i64 (a : Int) (2 ^ i) = ((a ||| 2 ^ i : Nat) : Int) ∧ a ||| 2 ^ i < 128 := by
 have h2 : 2 ^ i < 128 := by
  have : i = 0 ∨ i = 1 ∨ i = 2 ∨ i = 3 ∨ i = 4 ∨ i = 5 ∨ i = 6 := by omega
  rcases this with rfl | rfl | rfl | rfl | rfl | rfl | rfl <;> decide
 have h := (bits_three (a := a) (b := 2 ^ i) ha h2).2.1
 have hc : ((2 ^ i : Nat) : Int) = (2 : Int) ^ i := by simp
 rw [hc] at h
 exact ⟨(wrap_pow (by omega)).1, h, Nat.or_lt_two_pow (n := 7) ha h2⟩

end Go.Proofs.Ytgimcephbeajlaa

namespace Go.Proofs.Ytgimcephbeajlaa
open Go.RowKit

/-- Do two lists say the same in the rows from r on that are among some (by bits)? -/
def M.agreeK (b : Nat) (t u : List Int) : Nat → Nat → Bool
 | _, 0 => true
 | r, j + 1 => (b / 2 ^ r % 2 == 0 || t.getD r 0 == u.getD r 0) && M.agreeK b t u (r + 1) j
def M.rclash (x : Int) (b : Nat) (t u : List Int) : Bool := (M.rnum x t != M.rnum x u) && M.agreeK b t u 0 t.length
def M.rsetK (x : Int) (b : Nat) : List (List Int) → List (List Int) → Bool
 | _, [] => true
 | pre, t :: r => pre.all (fun u => !M.rclash x b t u) && M.rsetK x b (pre ++ [t]) r
def M.rsettles (x : Int) (b : Nat) (l : List (List Int)) : Bool := M.rsetK x b [] l

theorem LL.row {w wr : World} {A : Option Addr} {n c : Nat} {xs : List (List Int)} (h : LL w A n c xs) (he : Ev w wr) {k : Nat} (hk : k < n) : ∃ x B m d, xs[k]? = some x ∧ m = x.length ∧ IRow w (B, m, d) x ∧ ∀ b off, A = some ⟨b, off, none⟩ → ∀ W, Ev w W → W.cell? ⟨b, off + k, none⟩ = some (.slice B m d) := by
 obtain ⟨b, off, x, B, m, d, hA, hb, hx, _, hc, hr⟩ := h.at_ (Ev.refl w) hk
 refine ⟨x, B, m, d, hx, (hr.sl).len.symm, hr, fun b' off' hA' W hE => ?_⟩
 rw [hA] at hA'
 injection hA' with hA'
 injection hA' with h1 h2
 subst h1 h2
 exact (hE.cells.1 b _ hb).trans hc

end Go.Proofs.Ytgimcephbeajlaa

set_option linter.unusedSimpArgs false
set_option linter.unusedVariables false
namespace Go.Proofs.Ytgimcephbeajlaa
open Go.RowKit

section
variable {P : Program} {w : World}
theorem run_append_none (base : Nat) (t ty e : TypeId) (i : TypeInfo) (size : Nat) (ht : P.underlying t = some (.slice e)) (hi : P.info? e = some i)
  (v : Value) (n : Nat) (xs : List Value) (hown : w.ownsRow base e size v n xs) (c : Nat) :
  (Builtin.append_ #[t, t] ty #[v, .slice none 0 c]).run P w = .ok v w := by
 rcases hown.2 with ⟨rfl, rfl⟩ | ⟨g, cap, cur, rfl, _, _, hnc, _⟩
 ·
  simp [Builtin.append_, run_underlying ht, sizeOf, typeInfo, hi, Builtin.lenOf, Builtin.firstCells]
 ·
  simp [Builtin.append_, run_underlying ht, sizeOf, typeInfo, hi, Builtin.lenOf, Builtin.firstCells, hnc, storeCells]

theorem wpList_append_none {ops : Array Oper} {rest : List Oper} {o : Oper} {a : Act} {Q : Exit → Act → World → Prop} (hgd : o.guard = none) (s x : Operand) (t : TypeId)
  (ho : o.op = .call { callee := .builtin .append, args := #[s, x], argTypes := #[t, t] })
  (base : Nat) (e : TypeId) (i : TypeInfo) (size : Nat) (ht : P.underlying t = some (.slice e)) (hi : P.info? e = some i)
  (v : Value) (n : Nat) (xs : List Value) (hs : a.eval s = v) (hown : w.ownsRow base e size v n xs) (c : Nat) (hx : a.eval x = .slice none 0 c)
  (h : wpList P ops Q rest (a.put o.dst v) w) : wpList P ops Q (o :: rest) a w := by
 refine wpList_plain hgd fun K hK => ?_
 have hrun := run_append_none (P := P) (w := w) base t o.type e i size ht hi v n xs hown c
 unfold Oper.wp
 simp [execOp, ho, resolve, invoke, builtin, hs, hx, hrun, Result.andThen]
 exact hK _ _ h
end

theorem and_table : ((List.range 256).all fun a => (List.range 8).all fun r => decide (bits .and .i64 (a : Int) ((2 ^ r - 1 : Nat) : Int) = ((a &&& (2 ^ r - 1) : Nat) : Int)) && decide (a &&& (2 ^ r - 1) ≤ 2 ^ r - 1)) = true := by decide +kernel
theorem and_mask {a : Int} (h0 : 0 ≤ a) (h1 : a < 256) {r : Nat} (hr : r ≤ 7) : ∃ n : Nat, n ≤ 2 ^ r - 1 ∧ bits .and .i64 a ((2 ^ r - 1 : Nat) : Int) = (n : Int) := by
 have h := and_table
 rw [List.all_eq_true] at h
 have h2 := h a.toNat (List.mem_range.2 (by omega))
 rw [List.all_eq_true] at h2
 have h3 := h2 r (List.mem_range.2 (by omega))
 simp only [Bool.and_eq_true, decide_eq_true_eq] at h3
 rw [Int.toNat_of_nonneg h0] at h3
 exact ⟨_, h3.2, h3.1⟩

end Go.Proofs.Ytgimcephbeajlaa

set_option linter.unusedSimpArgs false
set_option linter.unusedVariables false

set_option linter.unusedSimpArgs false
set_option linter.unusedVariables false
namespace Go.Proofs.Ytgimcephbeajlaa
open Go.RowKit

/-- A range lies inside another one. -/
def M.inside (a b : M.Rg) : Bool := decide (b.lo ≤ a.lo) && decide (a.hi ≤ b.hi)
def M.inR (n : Int) (r : M.Rg) : Bool := decide (r.lo ≤ n) && decide (n ≤ r.hi)

set_option maxRecDepth 100000 in
set_option maxHeartbeats 1000000 in
theorem inside_c (a b : M.Rg) (w : World) :
  Calls Try.prog 87 #[.agg #[.int .i64 a.lo, .int .i64 a.hi], .agg #[.int .i64 b.lo, .int .i64 b.hi]] w fun e w' => e = .returned (.bool (M.inside a b)) ∧ Ev w w' := by
 go_enter Try.func87, Try.ntmps87
 go_wp2
 all_goals (go_ret; exact ⟨ret_bool (by simp only [M.inside]; first | (simp only [*]; simp; done) | (simp; omega)), Ev.alloc (Ev.alloc (Ev.refl _) _) _⟩)

set_option maxRecDepth 100000 in
set_option maxHeartbeats 1000000 in
theorem inR_c (n : Int) (r : M.Rg) (w : World) :
  Calls Try.prog 53 #[.int .i64 n, .agg #[.int .i64 r.lo, .int .i64 r.hi]] w fun e w' => e = .returned (.bool (M.inR n r)) ∧ Ev w w' := by
 go_enter Try.func53, Try.ntmps53
 go_wp2
 all_goals (go_ret; exact ⟨ret_bool (by simp only [M.inR]; first | (simp only [*]; simp; done) | (simp; omega)), Ev.alloc (Ev.refl _) _⟩)

def M.has (l : List Int) (n : Int) : Bool := l.any (· == n)

end Go.Proofs.Ytgimcephbeajlaa

set_option linter.unusedSimpArgs false
set_option linter.unusedVariables false
namespace Go.Proofs.Ytgimcephbeajlaa
open Go.RowKit

/-- append of any list to a row of one's own. -/
theorem append_any {α : Type} {enc : α → List Value} {P : Program} {w : World} {ops : Array Oper} {rest : List Oper} {o : Oper} {a : Act} {Q : Exit → Act → World → Prop} (hgd : o.guard = none) (s x : Operand) (t : TypeId)
  (ho : o.op = .call { callee := .builtin .append, args := #[s, x], argTypes := #[t, t] })
  (base : Nat) (e : TypeId) (i : TypeInfo) (z : Value) (size bytes : Nat) (ht : P.underlying t = some (.slice e)) (hi : P.info? e = some i) (hz : i.zero = some z)
  (hsize : i.size = size) (hby : i.bytes = bytes) (hzs : z.cells.size = size) (hsz : 0 < size)
  (v : Value) (n : Nat) (xs : List α) (hs : a.eval s = v) (hown : w.ownsRow base e size v n (xs.flatMap enc))
  (A : Option Addr) (m c : Nat) (ys : List α) (B : Nat) (hx : a.eval x = .slice A m c) (hsl : Sl enc size w B A m c ys) (henc : ∀ y ∈ ys, (enc y).length = size) (h1 : ∀ u ∈ ys.flatMap enc, u.oneCell' = true)
  (h63 : n + m ≤ maxLen) (hbytes : (n + m) * bytes ≤ 140737488355328) (hbase : base ≤ w.heap.size)
  (h : ∀ v' w', w'.ownsRow base e size v' (n + m) ((xs ++ ys).flatMap enc) → w.grownBy w' v.ownBlock → wpList P ops Q rest (a.put o.dst v') w') : wpList P ops Q (o :: rest) a w := by
 cases A with
 | some ad => exact append_sl hgd s x t ho base e i z size bytes ht hi hz hsize hby hzs hsz v n xs hs hown (some ad) m c ys B hx hsl henc h1 (fun e => by cases e) h63 hbytes hbase h
 | none =>
  have hm : m = 0 := by
   rcases Nat.eq_zero_or_pos m with h | h
   ·
    exact h
   ·
    obtain ⟨b, off, hA, _⟩ := hsl.cells h; cases hA
  subst hm
  obtain rfl : ys = [] := List.eq_nil_of_length_eq_zero hsl.len
  refine wpList_append_none hgd s x t ho base e i size ht hi v n _ hs hown c hx (h v w ?_ ⟨rfl, rfl, rfl, Nat.le_refl _, fun _ _ _ => rfl⟩)
  simpa using hown

end Go.Proofs.Ytgimcephbeajlaa

set_option linter.unusedSimpArgs false
set_option linter.unusedVariables false
namespace Go.Proofs.Ytgimcephbeajlaa
open Go.RowKit

/-- A list that can be read, of any length. -/
structure Sl0 {α : Type} (enc : α → List Value) (sz : Nat) (w : World) (B : Nat) (A : Option Addr) (n : Nat) (xs : List α) : Prop where
 len : xs.length = n
 cells : 0 < n → ∃ b off, A = some ⟨b, off, none⟩ ∧ b < B ∧ ∀ (k : Nat) (x : α), xs[k]? = some x → ∀ (j : Nat) (v : Value), (enc x)[j]? = some v → w.cell? ⟨b, off + k * sz + j, none⟩ = some v

section
variable {α : Type} {enc : α → List Value} {sz : Nat} {w w' : World} {B B' : Nat} {A : Option Addr} {n : Nat} {xs : List α}
theorem Sl0.keep (h : Sl0 enc sz w B A n xs) (hb : Below B w w') (hB : B ≤ B') : Sl0 enc sz w' B' A n xs :=
 ⟨h.len, fun hn => by
  obtain ⟨b, off, hA, hlt, hc⟩ := h.cells hn
  exact ⟨b, off, hA, by omega, fun k x hk j v hj => (hb.cell (p := ⟨b, _, none⟩) hlt).trans (hc k x hk j v hj)⟩⟩
theorem Sl0.ev (h : Sl0 enc sz w w.heap.size A n xs) (hb : Ev w w') : Sl0 enc sz w' w'.heap.size A n xs := h.keep hb hb.size
theorem Sl0.sl {c : Nat} (h : Sl0 enc sz w B A n xs) (hc : n ≤ c) (hn : n ≤ 1099511627776) : Sl enc sz w B A n c xs := ⟨h.len, hc, hn, h.cells⟩
end

theorem sl0_news {α : Type} {enc : α → List Value} {sz : Nat} (hsz : 0 < sz) {w : World} {B : Nat} {ad : Addr} {m : Nat} {ys : List α} (hs : Sl0 enc sz w B (some ad) m ys) (henc : ∀ y ∈ ys, (enc y).length = sz) :
  ∀ (j : Nat) (u : Value), (ys.flatMap enc)[j]? = some u → w.cell? (ad.add j) = some u := by
 intro j u hj
 have hlt : j < (ys.flatMap enc).length := (List.getElem?_eq_some_iff.1 hj).1
 rw [flat_len enc sz ys henc, hs.len] at hlt
 have hm : 0 < m := by
  rcases Nat.eq_zero_or_pos m with h | h
  ·
   subst h; simp at hlt
  ·
   exact h
 obtain ⟨b, off, hA, _, hc⟩ := hs.cells hm
 obtain rfl : ad = ⟨b, off, none⟩ := by simpa using hA
 have hk : j / sz < m := Nat.div_lt_of_lt_mul (by rw [Nat.mul_comm]; exact hlt)
 have hx : ys[j / sz]? = some (ys[j / sz]'(by rw [hs.len]; exact hk)) := List.getElem?_eq_getElem _
 have he := henc _ (List.mem_of_getElem? hx)
 have hv : (enc (ys[j / sz]'(by rw [hs.len]; exact hk)))[j % sz]? = some ((enc (ys[j / sz]'(by rw [hs.len]; exact hk)))[j % sz]'(by rw [he]; exact Nat.mod_lt _ hsz)) := List.getElem?_eq_getElem _
 have hf := flat_get enc sz ys henc _ _ hx _ _ hv
 have hjj : j / sz * sz + j % sz = j := by rw [Nat.mul_comm]; exact Nat.div_add_mod j sz
 rw [hjj, hj] at hf
 have hcc := hc _ _ hx _ _ hv
 rw [← hf, Nat.add_assoc, hjj] at hcc
 rw [show (⟨b, off, none⟩ : Addr).add j = ⟨b, off + j, none⟩ from by unfold Addr.add; split <;> simp_all]
 exact hcc

theorem own_form {w : World} {base : Nat} {e : TypeId} {sz : Nat} {v : Value} {n : Nat} {xs : List Value} (h : w.ownsRow base e sz v n xs) : ∃ V c, v = .slice V n c := by
 rcases h.2 with ⟨rfl, rfl⟩ | ⟨g, cap, cur, rfl, _⟩
 ·
  exact ⟨none, 0, rfl⟩
 ·
  exact ⟨_, cap, rfl⟩

/-- append of any list to a row of one's own, in a drawn region. -/
theorem step_append_any {α : Type} {enc : α → List Value} {P : Program} {w : World} {ops : Array Oper} {o : Oper} {a : Act} {K : Act → World → Prop} {Q : Exit → Act → World → Prop} {E : Prop} (hgd : o.guard = none) (s x : Operand) (t : TypeId)
  (ho : o.op = .call { callee := .builtin .append, args := #[s, x], argTypes := #[t, t] })
  (base : Nat) (e : TypeId) (i : TypeInfo) (z : Value) (size bytes : Nat) (ht : P.underlying t = some (.slice e)) (hi : P.info? e = some i) (hz : i.zero = some z)
  (hsize : i.size = size) (hby : i.bytes = bytes) (hzs : z.cells.size = size) (hsz : 0 < size)
  (v : Value) (n : Nat) (xs : List α) (hs : a.eval s = v) (hown : w.ownsRow base e size v n (xs.flatMap enc))
  (A : Option Addr) (m c : Nat) (ys : List α) (B : Nat) (hx : a.eval x = .slice A m c) (hsl : Sl0 enc size w B A m ys) (henc : ∀ y ∈ ys, (enc y).length = size) (h1 : ∀ u ∈ ys.flatMap enc, u.oneCell' = true)
  (h63 : n + m ≤ maxLen) (hbytes : (n + m) * bytes ≤ 140737488355328) (hbase : base ≤ w.heap.size)
  (h : ∀ v' w', w'.ownsRow base e size v' (n + m) ((xs ++ ys).flatMap enc) → w.grownBy w' v.ownBlock → K (a.put o.dst v') w') :
  if Region.wanted o (yielded ops a.tmps) = true then Oper.wp P o a w K Q else E := by
 cases A with
 | none =>
  have hm : m = 0 := by
   rcases Nat.eq_zero_or_pos m with h | h
   ·
    exact h
   ·
    obtain ⟨b, off, hA, _⟩ := hsl.cells h; cases hA
  subst hm
  obtain rfl : ys = [] := List.eq_nil_of_length_eq_zero hsl.len
  have hk := h v w (by simpa using hown) ⟨rfl, rfl, rfl, Nat.le_refl _, fun _ _ _ => rfl⟩
  have hrun := run_append_none (P := P) (w := w) base t o.type e i size ht hi v n _ hown c
  rw [if_pos (by simp [Region.wanted, hgd])]
  unfold Oper.wp
  simp [execOp, ho, resolve, invoke, builtin, hs, hx, hrun, Result.andThen]
  exact hk
 | some ad =>
  refine step_append_own hgd s x t ho base e i z size bytes ht hi hz hsize hby hzs hsz v n _ hs hown ad m c (ys.flatMap enc) hx (by rw [flat_len enc size ys henc, hsl.len]) (sl0_news hsz hsl henc) h1 h63 hbytes hbase fun v' w' h2 h3 _ => h v' w' ?_ h3
  rw [List.flatMap_append]; exact h2

end Go.Proofs.Ytgimcephbeajlaa

set_option linter.unusedSimpArgs false
set_option linter.unusedVariables false
namespace Go.Proofs.Ytgimcephbeajlaa
open Go.RowKit

/-- One of some words, 0 if there is none. -/
def M.word (ws : List Int) (i : Nat) : Int := if ws.length = 0 then 0 else ws.getD (i % ws.length) 0
def M.toldN (ws : List Int) : Nat := (M.word ws 0 % 6).toNat

theorem M.word_bd {ws : List Int} (h : ∀ x ∈ ws, 0 ≤ x ∧ x < 65536) (i : Nat) : 0 ≤ M.word ws i ∧ M.word ws i < 65536 := by
 unfold M.word
 split
 ·
  omega
 ·
  rename_i h0
  have hlt : i % ws.length < ws.length := Nat.mod_lt _ (by omega)
  rw [List.getD_eq_getElem?_getD, List.getElem?_eq_getElem hlt, Option.getD_some]
  exact h _ (List.getElem_mem hlt)
theorem M.toldN_le {ws : List Int} : M.toldN ws ≤ 5 := by unfold M.toldN; omega

theorem M.rdone_mem {x : Int} {l : List (List Int)} {t : List Int} (ht : t ∈ l) : M.inR (M.rnum x t) (M.rdone x l) = true := by
 obtain ⟨_, _, a3, _, _⟩ := M.widen_spec (l.map (M.rnum x)) ⟨M.big, -M.big⟩
 have := a3 _ (List.mem_map.2 ⟨t, ht, rfl⟩)
 unfold M.inR M.rdone
 simp only [Bool.and_eq_true, decide_eq_true_eq]
 exact this

theorem M.rnum_cnt2 (x : Int) (l : List Int) : M.rnum x l = M.cnt x l := by
 unfold M.rnum M.count
 rw [List.take_of_length_le (by simp; omega)]
 simp

/-- How many rows the first weeders did, and how many were left. -/
def M.sumTo (t : List Int) : Nat → Int
 | 0 => M.cnt (-1) t
 | k + 1 => M.sumTo t k + M.cnt (k : Int) t
theorem M.sumTo_cons (y : Int) (t : List Int) : ∀ (k : Nat), M.sumTo (y :: t) k = M.sumTo t k + (if -1 ≤ y ∧ y < (k : Int) then 1 else 0)
 | 0 => by
  show (if y = -1 then 1 else 0) + M.cnt (-1) t = M.cnt (-1) t + _
  by_cases h : y = -1
  ·
   rw [if_pos h, if_pos (by omega)]; omega
  ·
   rw [if_neg h, if_neg (by omega)]; omega
 | k + 1 => by
  show M.sumTo (y :: t) k + M.cnt (k : Int) (y :: t) = M.sumTo t k + M.cnt (k : Int) t + _
  rw [M.sumTo_cons y t k, M.cnt]
  by_cases h : y = (k : Int)
  ·
   rw [if_pos h, if_neg (by omega), if_pos (by omega)]; omega
  ·
   rw [if_neg h]
   by_cases h2 : -1 ≤ y ∧ y < (k : Int)
   ·
    rw [if_pos h2, if_pos (by omega)]; omega
   ·
    rw [if_neg h2, if_neg (by omega)]; omega
theorem M.sumTo_all : ∀ (t : List Int) (D : Nat), (∀ y ∈ t, -1 ≤ y ∧ y < (D : Int)) → M.sumTo t D = t.length
 | [], D, _ => by
  have : ∀ k, M.sumTo [] k = 0 := fun k => by
   induction k with
   | zero => rfl
   | succ k ih => show M.sumTo [] k + 0 = 0; omega
  rw [this]; rfl
 | y :: t, D, h => by
  rw [M.sumTo_cons, M.sumTo_all t D (fun z hz => h z (by simp [hz])), if_pos (h y (by simp))]
  simp
theorem M.sumTo_bd (t : List Int) : ∀ k : Nat, 0 ≤ M.sumTo t k ∧ M.sumTo t k ≤ (k + 1) * t.length
 | 0 => by have := M.cnt_bd (-1) t; simp [M.sumTo]; omega
 | k + 1 => by
  have h1 := M.sumTo_bd t k
  have h2 := M.cnt_bd (k : Int) t
  have : M.sumTo t (k + 1) = M.sumTo t k + M.cnt (k : Int) t := rfl
  rw [this]
  push_cast
  have e : ((k : Int) + 1 + 1) * t.length = (k + 1) * t.length + t.length := by rw [Int.add_mul ((k : Int) + 1) 1, Int.one_mul]
  omega

end Go.Proofs.Ytgimcephbeajlaa

set_option linter.unusedSimpArgs false
set_option linter.unusedVariables false
namespace Go.Proofs.Ytgimcephbeajlaa
open Go.RowKit

set_option maxRecDepth 100000 in
set_option maxHeartbeats 1000000 in
def wcs (x : Int) : List Value := [.int .u16 x]
theorem word_c (A : Option Addr) (n c : Nat) (ws : List Int) (hw : ∀ x ∈ ws, 0 ≤ x ∧ x < 65536) (i : Nat) (hi : i ≤ 100) (w : World) (hs : Sl0 wcs 1 w w.heap.size A n ws) (hnc : n ≤ c) (hcm : c ≤ maxLen) :
  Calls Try.prog 85 #[.slice A n c, .int .i64 i] w fun e w' => e = .returned (.int .i64 (M.word ws i)) ∧ w' = w := by
 have hln := hs.len
 have hmx : (n : Int) ≤ 9223372036854775807 := by unfold maxLen at hcm; omega
 rcases Nat.eq_zero_or_pos n with hn | hn
 ·
  subst hn
  have hv : M.word ws i = 0 := by unfold M.word; rw [if_pos hln]
  rw [hv]
  clear hv hs hw hln
  go_enter Try.func85, Try.ntmps85
  go_wp2
  go_ret
  exact ⟨rfl, rfl⟩
 ·
  obtain ⟨b, off, rfl, hb, hc⟩ := hs.cells hn
  have hlt : i % n < n := Nat.mod_lt _ hn
  have hx : ws[i % n]? = some (ws[i % n]'(by omega)) := List.getElem?_eq_getElem _
  have hv : M.word ws i = ws[i % n]'(by omega) := by
   unfold M.word
   rw [if_neg (by omega), List.getD_eq_getElem?_getD]
   simp only [hln]
   rw [hx]; rfl
  have e0 := hc _ _ hx 0 _ rfl
  rw [Nat.mul_one, Nat.add_zero] at e0
  have hwx := hw _ (List.getElem_mem (show i % n < ws.length by omega))
  rw [hv]
  generalize ws[i % n]'(by omega) = x at e0 hwx
  have s1 : IntKind.i64.wrap x = x := IntWalk.i64_in _ (by omega)
  have g1 : (i : Int) % (n : Int) = ((i % n : Nat) : Int) := by simp
  have z1 : ((n : Int) == 0) = false := by simp; omega
  have z2 : ¬ ((n : Int) = 0) := by omega
  clear hv hx hc hs hw hln
  generalize i % n = j at g1 e0 hlt
  go_enter Try.func85, Try.ntmps85
  go_wp2
  go_ret
  exact ⟨rfl, rfl⟩

theorem cell_set_off {w : World} {b i j : Nat} {cs : Array Value} {t : TypeId} {v : Value} (h : w.heap[b]? = some (.cells cs t (0, 0))) (hne : i ≠ j) : (w.setCell ⟨b, j, none⟩ v).cell? ⟨b, i, none⟩ = w.cell? ⟨b, i, none⟩ := by
 rw [cell_in (set_heap_same h), cell_in h, Array.getElem?_setIfInBounds_ne (fun e => hne e.symm)]

theorem IRow.set {w : World} {v : Hd} {xs : List Int} {b j : Nat} {cs : Array Value} {t : TypeId} {u : Value} (h : IRow w v xs) (hb : w.heap[b]? = some (.cells cs t (0, 0))) (ht : t ≠ 3) : IRow (w.setCell ⟨b, j, none⟩ u) v xs := by
 refine ⟨ownsRow_setCell_other h.1 (fun e => ?_) u, h.2⟩
 rcases h.1.2 with ⟨hn, _⟩ | ⟨g, cap, cur, hv, _, hg, _⟩
 ·
  rw [hn] at e; cases e
 ·
  rw [hv] at e
  have e2 : some g = some b := e
  obtain rfl : g = b := by injection e2
  rw [hg] at hb
  injection hb with hb
  injection hb with _ hb
  exact ht hb.symm
theorem IRow.set5 {w : World} {v : Hd} {xs : List Int} {b : Nat} {cs : Array Value} {v0 v1 v2 v3 v4 : Value} (h : IRow w v xs) (hb : w.heap[b]? = some (.cells cs 28 (0, 0))) :
  IRow (((((w.setCell ⟨b, 0, none⟩ v0).setCell ⟨b, 1, none⟩ v1).setCell ⟨b, 2, none⟩ v2).setCell ⟨b, 3, none⟩ v3).setCell ⟨b, 4, none⟩ v4) v xs :=
 ((((h.set hb (by decide)).set (set_heap_same hb) (by decide)).set (set_heap_same (set_heap_same hb)) (by decide)).set (set_heap_same (set_heap_same (set_heap_same hb))) (by decide)).set (set_heap_same (set_heap_same (set_heap_same (set_heap_same hb)))) (by decide)

end Go.Proofs.Ytgimcephbeajlaa

set_option linter.unusedSimpArgs false
set_option linter.unusedVariables false
namespace Go.Proofs.Ytgimcephbeajlaa
open Go.RowKit

/-- Two values have no block in common. -/
def Ap (v u : Value) : Prop := ∀ g, v.ownBlock = some g → u.ownBlock = some g → False
theorem Ap.symm {v u : Value} (h : Ap v u) : Ap u v := fun g h1 h2 => h g h2 h1
theorem Ap.ne {v u : Value} (h : Ap v u) : u.ownBlock = none ∨ u.ownBlock ≠ v.ownBlock := by
 cases hu : u.ownBlock with
 | none => exact .inl rfl
 | some g => exact .inr (fun e => h g e.symm hu)
theorem Ap.grow {v u v' : Value} {m : Nat} (h : Ap v u) (hu : ∀ g, u.ownBlock = some g → g < m) (hat : v'.ownBlock = v.ownBlock ∨ v'.ownBlock = some m) : Ap v' u := by
 intro g h1 h2
 rcases hat with e | e
 ·
  exact h g (e ▸ h1) h2
 ·
  rw [h1] at e
  injection e with e
  subst e
  exact absurd (hu _ h2) (by omega)
theorem own_set_ne {w : World} {base : Nat} {e : TypeId} {size : Nat} {v : Value} {n : Nat} {xs : List Value} {b j : Nat} {u : Value} (h : w.ownsRow base e size v n xs) (hne : v.ownBlock ≠ some b) : (w.setCell ⟨b, j, none⟩ u).ownsRow base e size v n xs := by
 refine ⟨h.1, ?_⟩
 rcases h.2 with hn | ⟨g, cap, cur, rfl, hb, hg, rest⟩
 ·
  exact .inl hn
 ·
  exact .inr ⟨g, cap, cur, rfl, hb, set_heap hg (fun e => hne (by subst e; rfl)), rest⟩

end Go.Proofs.Ytgimcephbeajlaa
