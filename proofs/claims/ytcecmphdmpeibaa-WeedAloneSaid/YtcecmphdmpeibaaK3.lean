import Derived.Test.YtcecmphdmpeibaaU6
namespace Go.Proofs.Ytcecmphdmpeibaa
open Go.RowKit

/-- A field of one weeder, without tallies. -/
def M.al (n a b : Int) : M.Fl := ⟨n, 1, ⟨a, b⟩, []⟩
def M.alOk (n a b : Int) : Bool := decide (M.begin (M.al n a b) true = 0) && (decide (M.done (M.al n a b) = [⟨n - b, n - a⟩]) && (M.settles (M.al n a b) 0 (M.truths (M.al n a b)) [] == decide (a = b)))

theorem al_all : ((List.range 7).all fun (n : Nat) => (List.range (n + 2)).all fun (a : Nat) => (List.range (n + 2)).all fun (b : Nat) => !decide (a ≤ b) || M.alOk ((n : Int) + 1) a b) = true := by decide +kernel

theorem al_spec {n a b : Nat} (hn : n < 7) (hb : b ≤ n + 1) (hab : a ≤ b) :
    M.begin (M.al ((n : Int) + 1) a b) true = 0 ∧ M.done (M.al ((n : Int) + 1) a b) = [⟨(n : Int) + 1 - b, (n : Int) + 1 - a⟩] ∧ (M.askBest (M.al ((n : Int) + 1) a b) 0 = [] ↔ a = b) := by
  have h := al_all
  rw [List.all_eq_true] at h
  have h1 := h n (List.mem_range.2 hn)
  rw [List.all_eq_true] at h1
  have h2 := h1 a (List.mem_range.2 (by omega))
  rw [List.all_eq_true] at h2
  have h3 := h2 b (List.mem_range.2 (by omega))
  simp only [hab, decide_true, Bool.not_true, Bool.false_or] at h3
  unfold M.alOk at h3
  simp only [Bool.and_eq_true, decide_eq_true_eq, beq_iff_eq] at h3
  obtain ⟨h4, h5, h6⟩ := h3
  refine ⟨h4, h5, ?_⟩
  rw [M.askBest_nil (begin_good h4), h6, decide_eq_true_eq]
  omega

end Go.Proofs.Ytcecmphdmpeibaa
