import Derived.Test.YtgimcephbeajlaaGreatC27
set_option linter.unusedSimpArgs false
set_option linter.unusedVariables false
namespace Go.Proofs.YtgimcephbeajlaaGreat
open Go.RowKit Go.Shelf

/-- Those of some looks whose bits are set. -/
def M.keepK (b : Nat) : List M.Rd → Nat → List M.Rd
 | [], _ => []
 | t :: r, i => (if b / 2 ^ i % 2 = 1 then [t] else []) ++ M.keepK b r (i + 1)
/-- A field with other looks. -/
def M.withL (f : M.Cf) (ls : List M.Rd) : M.Cf := ⟨f.last, f.size, f.cool, f.die, f.burn, f.st, f.wet, f.turns, ls⟩
def M.subF (f : M.Cf) (b : Nat) : M.Cf := M.withL f (M.keepK b f.rds 0)
theorem M.keepK_len (b : Nat) : ∀ (ts : List M.Rd) (i : Nat), (M.keepK b ts i).length ≤ ts.length
 | [], _ => Nat.le_refl _
 | t :: r, i => by
  rw [M.keepK, List.length_append, List.length_cons]
  have := M.keepK_len b r (i + 1)
  split <;> simp <;> omega
theorem M.mem_keepK (b : Nat) (t : M.Rd) : ∀ (ts : List M.Rd) (i : Nat), t ∈ M.keepK b ts i ↔ ∃ j, ts[j]? = some t ∧ b / 2 ^ (i + j) % 2 = 1
 | [], i => by simp [M.keepK]
 | x :: r, i => by
  rw [M.keepK, List.mem_append, M.mem_keepK b t r (i + 1)]
  constructor
  ·
   rintro (h | ⟨j, h1, h2⟩)
   ·
    split at h
    ·
     rename_i hb
     obtain rfl := List.mem_singleton.1 h
     exact ⟨0, rfl, hb⟩
    ·
     cases h
   ·
    exact ⟨j + 1, by simpa using h1, by rw [show i + (j + 1) = i + 1 + j from by omega]; exact h2⟩
  ·
   rintro ⟨j, h1, h2⟩
   cases j with
   | zero =>
    left
    rw [if_pos (by simpa using h2)]
    simpa using h1.symm
   | succ j =>
    right
    exact ⟨j, by simpa using h1, by rw [show i + 1 + j = i + (j + 1) from by omega]; exact h2⟩
theorem M.keepK_sub {b : Nat} {ts : List M.Rd} {i : Nat} {t : M.Rd} (h : t ∈ M.keepK b ts i) : t ∈ ts := by
 obtain ⟨j, h1, _⟩ := (M.mem_keepK b t ts i).1 h
 exact List.mem_of_getElem? h1
theorem infoRR : (Tryz.prog.info? 60).map (fun i => (i.zero, i.size, i.bytes)) = some (some (.agg #[.int .i64 0, .int .i64 0, .int .i64 0]), 3, 24) := by kernel_rfl


end Go.Proofs.YtgimcephbeajlaaGreat
