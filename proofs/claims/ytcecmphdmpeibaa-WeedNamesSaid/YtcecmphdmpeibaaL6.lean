import Derived.Test.YtcecmphdmpeibaaL5
import Derived.Test.YtcecmphdmpeibaaU4
namespace Go.Proofs.Ytcecmphdmpeibaa
open Go.RowKit

/-- What a list of lists holds of one of its lists: address, length, capacity. -/
abbrev Hd := Option Addr × Nat × Nat
def hdc (v : Hd) : List Value := [.slice v.1 v.2.1 v.2.2]
theorem info27 : (Try.prog.info? 27).map (fun i => (i.zero, i.size, i.bytes)) = some (some (.slice none 0 0), 1, 24) := by kernel_rfl

/-- A list of its own, of numbers. -/
def IRow (w : World) (v : Hd) (xs : List Int) : Prop := w.ownsRow 0 3 1 (.slice v.1 v.2.1 v.2.2) v.2.1 (xs.flatMap ics) ∧ v.2.1 ≤ 1099511627776
def Rows2 (w : World) : List Hd → List (List Int) → Prop
  | [], [] => True
  | v :: vs, x :: xs => IRow w v x ∧ Rows2 w vs xs
  | _, _ => False

theorem IRow.sl {w : World} {v : Hd} {xs : List Int} (h : IRow w v xs) : Sl ics 1 w w.heap.size v.1 v.2.1 v.2.2 xs := sl_own (by decide) (fun _ _ => rfl) h.2 h.1
theorem IRow.ev {w w' : World} {v : Hd} {xs : List Int} (h : IRow w v xs) (he : Ev w w') : IRow w' v xs := ⟨h.1.ev he, h.2⟩
theorem IRow.grown {w w' : World} {v : Hd} {xs : List Int} (h : IRow w v xs) {base n2 : Nat} {v2 : Value} {x2 : List Value} (h2 : w.ownsRow base 27 1 v2 n2 x2) (hg : w.grownBy w' v2.ownBlock) : IRow w' v xs :=
  ⟨h.1.kept hg (own_ne (own0 h2) h.1 (by decide)), h.2⟩

theorem Rows2.len {w : World} : ∀ {vs : List Hd} {xs : List (List Int)}, Rows2 w vs xs → vs.length = xs.length
  | [], [], _ => rfl
  | _ :: _, [], h => h.elim
  | [], _ :: _, h => h.elim
  | _ :: _, _ :: _, h => by simp [Rows2.len h.2]
theorem Rows2.imp {w w' : World} (hi : ∀ v x, IRow w v x → IRow w' v x) : ∀ {vs : List Hd} {xs : List (List Int)}, Rows2 w vs xs → Rows2 w' vs xs
  | [], [], _ => trivial
  | _ :: _, [], h => h.elim
  | [], _ :: _, h => h.elim
  | _ :: _, _ :: _, h => ⟨hi _ _ h.1, Rows2.imp hi h.2⟩
theorem Rows2.ev {w w' : World} {vs : List Hd} {xs : List (List Int)} (h : Rows2 w vs xs) (he : Ev w w') : Rows2 w' vs xs := h.imp fun _ _ h => h.ev he
theorem Rows2.snoc {w : World} {v : Hd} {x : List Int} (hx : IRow w v x) : ∀ {vs : List Hd} {xs : List (List Int)}, Rows2 w vs xs → Rows2 w (vs ++ [v]) (xs ++ [x])
  | [], [], _ => ⟨hx, trivial⟩
  | _ :: _, [], h => h.elim
  | [], _ :: _, h => h.elim
  | _ :: _, _ :: _, h => ⟨h.1, Rows2.snoc hx h.2⟩
theorem Rows2.get {w : World} : ∀ {vs : List Hd} {xs : List (List Int)} (k : Nat) (_ : Rows2 w vs xs) {v : Hd} (_ : vs[k]? = some v), ∃ x, xs[k]? = some x ∧ IRow w v x
  | [], [], _, _, _, hv => by simp at hv
  | _ :: _, [], _, h, _, _ => h.elim
  | [], _ :: _, _, h, _, _ => h.elim
  | _ :: _, _ :: _, 0, h, v, hv => ⟨_, rfl, by simp at hv; subst hv; exact h.1⟩
  | _ :: _, _ :: _, k + 1, h, v, hv => by
    obtain ⟨x, h1, h2⟩ := Rows2.get k h.2 (v := v) (by simpa using hv)
    exact ⟨x, by simpa using h1, h2⟩

/-- The slice value '.slice A n c' reads as a list of lists of numbers. -/
def LL (w : World) (A : Option Addr) (n c : Nat) (xs : List (List Int)) : Prop := ∃ vs : List Hd, Sl hdc 1 w w.heap.size A n c vs ∧ Rows2 w vs xs
theorem LL.ev {w w' : World} {A : Option Addr} {n c : Nat} {xs : List (List Int)} (h : LL w A n c xs) (he : Ev w w') : LL w' A n c xs := by
  obtain ⟨vs, h1, h2⟩ := h
  exact ⟨vs, h1.ev he, h2.ev he⟩
theorem LL.len {w : World} {A : Option Addr} {n c : Nat} {xs : List (List Int)} (h : LL w A n c xs) : xs.length = n := by
  obtain ⟨vs, h1, h2⟩ := h
  rw [← h2.len, h1.len]
theorem LL.small {w : World} {A : Option Addr} {n c : Nat} {xs : List (List Int)} (h : LL w A n c xs) : n ≤ 1099511627776 := by
  obtain ⟨vs, h1, h2⟩ := h
  exact h1.small
/-- The k-th list, in a later world. -/
theorem LL.at_ {w wr : World} {A : Option Addr} {n c : Nat} {xs : List (List Int)} (h : LL w A n c xs) (he : Ev w wr) {k : Nat} (hk : k < n) :
    ∃ b off x B m d, A = some ⟨b, off, none⟩ ∧ b < w.heap.size ∧ xs[k]? = some x ∧ xs.drop k = x :: xs.drop (k + 1) ∧ wr.cell? ⟨b, off + k, none⟩ = some (.slice B m d) ∧ IRow w (B, m, d) x := by
  obtain ⟨vs, h1, h2⟩ := h
  obtain ⟨b, off, v, hA, hb, hv, _, hc⟩ := h1.at_ he hk
  obtain ⟨x, hx, hr⟩ := h2.get k hv
  refine ⟨b, off, x, v.1, v.2.1, v.2.2, hA, hb, hx, drop_some hx, ?_, hr⟩
  have := hc 0 _ rfl
  simpa using this

def M.rtruthsK (f : M.Fl) (k j : Nat) : List (List Int) := ((List.range' k j).map (M.nth f)).filter (M.isTruth f)
/-- All truths, in the reference's order. -/
def M.rtruths (f : M.Fl) : List (List Int) := M.rtruthsK f 0 (M.power f).toNat
theorem M.rtruthsK_succ (f : M.Fl) (k j : Nat) : M.rtruthsK f k (j + 1) = (if M.isTruth f (M.nth f k) then [M.nth f k] else []) ++ M.rtruthsK f (k + 1) j := by
  unfold M.rtruthsK
  rw [List.range'_succ, List.map_cons, List.filter_cons]
  split <;> rfl

end Go.Proofs.Ytcecmphdmpeibaa
