import Derived.Test.YtcecmphdmpeibaaL10
import Derived.Test.YtcecmphdmpeibaaL11
import Derived.Test.YtcecmphdmpeibaaL12
namespace Go.Proofs.Ytcecmphdmpeibaa
open Go.RowKit

/-- A field's value, written out. -/
theorem Thin_any (f : M.Fl) (A : Option Addr) (n c : Nat) (w : World) (hs : n ≤ 7 → Sl tcs 5 w w.heap.size A n c f.ts) :
    Calls Try.prog 20 #[.agg #[.int .i64 f.rows, .int .i64 f.wds, .int .i64 f.lf.lo, .int .i64 f.lf.hi, .slice A n c]] w fun e w' => e = .returned (.bool (decide (n ≤ 7) && M.thin f)) ∧ Ev w w' := by
  by_cases h7 : n ≤ 7
  · have h := Thin_c f A n c w (hs h7)
    simp only [h7, decide_true, Bool.true_and]
    exact h
  · have hd : decide (n ≤ 7) = false := by simpa using h7
    rw [hd, Bool.false_and]
    have hb : ¬ (n : Int) ≤ 7 := by omega
    clear hd hs
    go_enter Try.func20, Try.ntmps20
    go_wp2
    go_ret
    exact ⟨rfl, Ev.alloc (Ev.refl _) _⟩

theorem M.rt_pos {f : M.Fl} (h : M.check f = 0) : ∀ t ∈ M.rtruths f, 0 < t.length := by
  intro t ht
  have h1 := ((M.mem_rtruths h t).1 ht).1.1
  have h2 := M.check_bd h
  omega
theorem M.begin_check {f : M.Fl} {b : Bool} (h : M.begin f b = 0) : M.check f = 0 := by
  unfold M.begin at h
  split at h
  · assumption
  · rename_i h0; exact absurd h h0
theorem M.done_at {f : M.Fl} (h : M.begin f true = 0) {D : Nat} (hD : f.wds = D) {k : Nat} (hk : k < D) : (M.done f)[k]? = some (M.rdone k (M.rtruths f)) := by
  unfold M.done
  rw [List.getElem?_map, hD, Int.toNat_natCast, List.getElem?_range hk]
  rw [← M.done_same (M.begin_check h) (begin_some h)]
  rfl
theorem M.done_len {f : M.Fl} : (M.done f).length = f.wds.toNat := by unfold M.done; simp

end Go.Proofs.Ytcecmphdmpeibaa
