import Derived.Test.YtcecmphdmpeibaaL24
import Derived.Test.YtcecmphdmpeibaaQ5
set_option linter.unusedSimpArgs false
set_option linter.unusedVariables false
namespace Go.Proofs.Ytcecmphdmpeibaa
open Go.RowKit

section
variable {P : Program} {w : World}
theorem run_append_none (base : Nat) (t ty e : TypeId) (i : TypeInfo) (size : Nat) (ht : P.underlying t = some (.slice e)) (hi : P.info? e = some i)
    (v : Value) (n : Nat) (xs : List Value) (hown : w.ownsRow base e size v n xs) (c : Nat) :
    (Builtin.append_ #[t, t] ty #[v, .slice none 0 c]).run P w = .ok v w := by
  rcases hown.2 with ⟨rfl, rfl⟩ | ⟨g, cap, cur, rfl, _, _, hnc, _⟩
  · simp [Builtin.append_, run_underlying ht, sizeOf, typeInfo, hi, Builtin.lenOf, Builtin.firstCells]
  · simp [Builtin.append_, run_underlying ht, sizeOf, typeInfo, hi, Builtin.lenOf, Builtin.firstCells, hnc, storeCells]

theorem wpList_append_none {ops : Array Oper} {rest : List Oper} {o : Oper} {a : Act} {Q : Exit → Act → World → Prop} (hgd : o.guard = none) (s x : Operand) (t : TypeId)
    (ho : o.op = .call { callee := .builtin .append, args := #[s, x], argTypes := #[t, t] })
    (base : Nat) (e : TypeId) (i : TypeInfo) (size : Nat) (ht : P.underlying t = some (.slice e)) (hi : P.info? e = some i)
    (v : Value) (n : Nat) (xs : List Value) (hs : a.eval s = v) (hown : w.ownsRow base e size v n xs) (c : Nat) (hx : a.eval x = .slice none 0 c)
    (h : wpList P ops Q rest (a.put o.dst v) w) : wpList P ops Q (o :: rest) a w := by
  refine wpList_plain hgd fun K hK => ?_
  have hrun := run_append_none (P := P) (w := w) base t o.type e i size ht hi v n xs hown c
  unfold Oper.wp
  simp [execOp, ho, resolve, invoke, builtin, hs, hx, hrun, Result.andThen]
  exact hK _ _ h
end

set_option maxRecDepth 100000 in
set_option maxHeartbeats 1000000 in
theorem list_d (A : Option Addr) (m c : Nat) (l : List Int) (hm : m ≤ 1000) (w : World) (hs : Sl ics 1 w w.heap.size A m c l) :
    Calls Try.prog 26 #[.slice A m c] w fun e w' => (∃ B d, e = .returned (.slice B m d) ∧ Sl ics 1 w' w'.heap.size B m d l) ∧ Ev w w' := by
  cases A with
  | some a => exact list_c (some a) m c l hm (fun h => by cases h) w hs
  | none =>
    have hm0 : m = 0 := by
      rcases Nat.eq_zero_or_pos m with h | h
      · exact h
      · obtain ⟨b, off, hA, _⟩ := hs.cells h; cases hA
    subst hm0
    obtain rfl : l = [] := List.eq_nil_of_length_eq_zero hs.len
    obtain ⟨i0, hi0, hz0, hz1, hz2⟩ := info_parts info3
    go_enter Try.func26, Try.ntmps26
    go_wp2_with (at_builtin; refine wpList_append_none rfl (.tmp 3) (.tmp 4) 27 rfl w.heap.size 3 i0 1 Try.underlying27 hi0 _ 0 [] rfl (World.ownsRow_lit w _ 0 (Nat.le_refl _) (by decide) rfl) c rfl ?_)
    go_ret
    exact ⟨⟨_, _, rfl, ⟨rfl, by omega, by omega, fun h => absurd h (by omega)⟩⟩, Ev.alloc (Ev.refl _) _⟩

/-- What ready says of a field. -/
def M.rdy (f : M.Fl) (n : Nat) : Bool := decide (n ≤ 7) && M.thin f && decide (M.check f = 0)

set_option maxRecDepth 100000 in
set_option maxHeartbeats 1000000 in
theorem ready_c (f : M.Fl) (A : Option Addr) (n c : Nat) (w : World) (hs : n ≤ 7 → Sl tcs 5 w w.heap.size A n c f.ts) :
    Calls Try.prog 52 #[.agg #[.int .i64 f.rows, .int .i64 f.wds, .int .i64 f.lf.lo, .int .i64 f.lf.hi, .slice A n c]] w fun e w' => e = .returned (.bool (M.rdy f n)) ∧ Ev w w' := by
  have hth := fun W (hE : Ev w W) => Thin_any f A n c W (fun h => (hs h).ev hE)
  unfold M.rdy
  cases hthin : (decide (n ≤ 7) && M.thin f) with
  | false =>
    rw [hthin] at hth
    have HTH := hid hth
    clear hth hthin hs
    go_enter Try.func52, Try.ntmps52
    go_wp2_with (first | (go_at_call 20; ((with_reducible refine (HTH.out _ (Ev.alloc (Ev.refl _) _)).mono ?_); rintro e w1 ⟨rfl, hb1⟩; have hE1 : Ev w w1 := Ev.trans (Ev.alloc (Ev.refl _) _) hb1)))
    go_ret
    exact ⟨rfl, hE1⟩
  | true =>
    rw [hthin] at hth
    simp only [Bool.and_eq_true, decide_eq_true_eq] at hthin
    have hs' := hs hthin.1
    have hfa := fun W (hE : Ev w W) => fault_c f A n c W (hs'.ev hE)
    have HTH := hid hth
    generalize M.check f = k at hfa
    have HFA := hid hfa
    clear hth hthin hs hs' hfa
    by_cases hk : k = 0
    · subst hk
      go_enter Try.func52, Try.ntmps52
      go_wp2_with (first | (go_at_call 20; ((with_reducible refine (HTH.out _ (Ev.alloc (Ev.refl _) _)).mono ?_); rintro e w1 ⟨rfl, hb1⟩; have HQ := hid (hb1.heap (alloc1 w (.cells #[.int .i64 f.rows, .int .i64 f.wds, .int .i64 f.lf.lo, .int .i64 f.lf.hi, .slice A n c] 26)).1); obtain ⟨q0, q1, q2, q3, q4⟩ := cells5 HQ.out; have hE1 : Ev w w1 := Ev.trans (Ev.alloc (Ev.refl _) _) hb1)) | (go_at_call 22; ((with_reducible refine (HFA.out _ hE1).mono ?_); rintro e w2 ⟨rfl, hb2⟩)))
      go_ret
      exact ⟨rfl, hE1.trans hb2⟩
    · have hkb : (k == 0) = false := by simpa using hk
      have hkd : decide (k = 0) = false := by simpa using hk
      have HKD := hid hkd
      clear hk hkd
      go_enter Try.func52, Try.ntmps52
      go_wp2_with (first | (go_at_call 20; ((with_reducible refine (HTH.out _ (Ev.alloc (Ev.refl _) _)).mono ?_); rintro e w1 ⟨rfl, hb1⟩; have HQ := hid (hb1.heap (alloc1 w (.cells #[.int .i64 f.rows, .int .i64 f.wds, .int .i64 f.lf.lo, .int .i64 f.lf.hi, .slice A n c] 26)).1); obtain ⟨q0, q1, q2, q3, q4⟩ := cells5 HQ.out; have hE1 : Ev w w1 := Ev.trans (Ev.alloc (Ev.refl _) _) hb1)) | (go_at_call 22; ((with_reducible refine (HFA.out _ hE1).mono ?_); rintro e w2 ⟨rfl, hb2⟩)))
      go_ret
      exact ⟨by rw [HKD.out]; rfl, hE1.trans hb2⟩

theorem and_table : ((List.range 256).all fun a => (List.range 8).all fun r => decide (bits .and .i64 (a : Int) ((2 ^ r - 1 : Nat) : Int) = ((a &&& (2 ^ r - 1) : Nat) : Int)) && decide (a &&& (2 ^ r - 1) ≤ 2 ^ r - 1)) = true := by decide +kernel
theorem and_mask {a : Int} (h0 : 0 ≤ a) (h1 : a < 256) {r : Nat} (hr : r ≤ 7) : ∃ n : Nat, n ≤ 2 ^ r - 1 ∧ bits .and .i64 a ((2 ^ r - 1 : Nat) : Int) = (n : Int) := by
  have h := and_table
  rw [List.all_eq_true] at h
  have h2 := h a.toNat (List.mem_range.2 (by omega))
  rw [List.all_eq_true] at h2
  have h3 := h2 r (List.mem_range.2 (by omega))
  simp only [Bool.and_eq_true, decide_eq_true_eq] at h3
  rw [Int.toNat_of_nonneg h0] at h3
  exact ⟨_, h3.2, h3.1⟩

end Go.Proofs.Ytcecmphdmpeibaa
