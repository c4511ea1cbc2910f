import Derived.Test.YtffbkbcjddigdaaA9
set_option linter.unusedSimpArgs false
set_option linter.unusedVariables false
namespace Go.Proofs.Ytffbkbcjddigdaa
open Go.RowKit
open Go.WideMaps (KeyLaw)

theorem wide151 : (match Try.prog.underlying 143 with | some (.array _ _) | some (.struct _) => true | _ => false) = true := by rw [Try.underlying143]
theorem row151 : (143 : TypeId) < Try.prog.types.size := by rw [show Try.prog.types.size = 193 from Try.types_size]; decide
set_option maxRecDepth 100000 in
theorem law151 : KeyLaw Try.prog 143 := deep_law_laid laidOut (m := 2) (by omega) row151 (by kernel_rfl) wide151
theorem lits4_ (d : Nat) (b : Bool) : Try.prog.keyLits (d + 1) 4 [.bool b] = some [.bool b] := by
  unfold Program.keyLits
  rw [Try.underlying4]
theorem lits3_ (d : Nat) (n : Int) (hn : Wf n) : Try.prog.keyLits (d + 1) 3 [.int .i64 n] = some [.int .i64 n] := by
  unfold Program.keyLits
  rw [Try.underlying3]
  simp only []
  rw [if_pos ⟨trivial, hn⟩]
set_option maxRecDepth 100000 in
theorem key151 {a : Int} {b : Bool} (ha : Wf a) : ∃ l, keyOf Try.prog 143 (.agg #[.int .i64 a, .bool b]) = some l := by
  have hk : Try.prog.keyType 143 = true := by kernel_rfl
  have hcl : Try.prog.cellsOf 143 = 2 := by kernel_rfl
  have hc3 : Try.prog.cellsOf 3 = 1 := by kernel_rfl
  have hc4 : Try.prog.cellsOf 4 = 1 := by kernel_rfl
  have hf : (Value.agg #[Value.int .i64 a, .bool b]).formed Try.prog 143 = true := by simp [Value.formed, Try.underlying143, hcl]
  have hsz : Try.prog.types.size = 193 := Try.types_size
  unfold keyOf
  rw [Try.underlying143]
  simp only [hk, hf, Bool.and_self, if_true, hsz]
  unfold Program.keyLits
  rw [Try.underlying143]
  simp [hcl, hc3, hc4, Value.cells, lits3_ 192 a ha, lits4_ 192 b]

/-- The numbers from lo, so many. -/
def M.fromTo (lo : Int) : Nat → List Int
  | 0 => []
  | k + 1 => M.fromTo lo k ++ [lo + k]
theorem M.fromTo_len (lo : Int) : ∀ k, (M.fromTo lo k).length = k
  | 0 => rfl
  | k + 1 => by rw [M.fromTo, List.length_append, M.fromTo_len lo k]; rfl
theorem info3' : (Try.prog.info? 3).map (fun i => (i.zero, i.size, i.bytes)) = some (some (.int .i64 0), 1, 8) := by kernel_rfl

set_option maxRecDepth 100000 in
set_option maxHeartbeats 2000000 in
theorem fromTo_c (lo hi : Int) (N : Nat) (hN : lo + N = hi + 1) (h0 : -1000 ≤ lo) (h1 : hi ≤ 1000) (w : World) :
    Calls Try.prog 116 #[.int .i64 lo, .int .i64 hi] w fun e w' => (∃ V c, e = .returned (.slice V N c) ∧ w'.ownsRow w.heap.size 3 1 (.slice V N c) N ((M.fromTo lo N).flatMap ics)) ∧ Ev w w' := by
  obtain ⟨i0, hi0, hz0, hz1, hz2⟩ := info_parts info3'
  go_enter Try.func116, Try.ntmps116
  go_wp2
  go_loopw [5, 6] (fun v i wr => ∃ k : Nat, ∃ V : Option Addr, ∃ c : Nat, ∃ y : Int, v = .slice V k c ∧ i = .int .i64 y ∧ y = lo + k ∧ k ≤ N ∧ Ev w wr ∧ wr.ownsRow w.heap.size 3 1 (.slice V k c) k ((M.fromTo lo k).flatMap ics)) (fun _ i _ => (hi + 1 - intOf i).toNat)
  case atStart => exact ⟨0, none, 0, lo, rfl, rfl, by omega, by omega, Ev.refl _, World.ownsRow_nil _ _ _ _⟩
  case round =>
    obtain ⟨k, V, c, y, rfl, rfl, hy, hk, hB, hown⟩ := hrel
    have hbs := hB.size
    by_cases hlt : k < N
    · have hyh : y ≤ hi := by omega
      have HTK := hid (show (M.fromTo lo (k + 1)).flatMap ics = (M.fromTo lo k).flatMap ics ++ [.int .i64 y] by rw [M.fromTo, List.flatMap_append, hy]; rfl)
      have s1 : IntKind.i64.wrap (y + 1) = y + 1 := IntWalk.i64_in _ (by omega)
      have HY := hid hy
      clear hy
      go_wp2_with (at_builtin; refine wpList_append_own_at _ rfl (.tmp 13) (.tmp 15) 23 rfl w.heap.size 3 i0 _ 1 8 Try.underlying23 hi0 hz0 hz1 hz2 rfl (by decide) _ k ((M.fromTo lo k).flatMap ics) rfl (hown.alloc _) ⟨wr.heap.size, 0, none⟩ 1 1 [.int .i64 y] rfl rfl (news_in (alloc1 wr _).1) (by simp [Value.oneCell']) (by unfold maxLen; omega) (by omega) (by simp; omega) ?_; intro v' w3 hown' hgrow _ _; have hown3 : w3.ownsRow w.heap.size 3 1 v' (k + 1) ((M.fromTo lo (k + 1)).flatMap ics) := (by rw [HTK.out]; exact hown'); obtain ⟨V', c', rfl⟩ := own_form hown3; have HE3 := hid (Ev.grown (hB.alloc (.cells #[.int .i64 y] 3)) hgrow (fun q e => (hown.lt q e).1) : Ev w w3); have HO3 := hid hown3; clear hown' hown3 hgrow)
      exact ⟨⟨k + 1, V', c', y + 1, rfl, by go_num, by have := HY.out; omega, by omega, HE3.out, HO3.out⟩, by simp [intOf]; omega⟩
    · obtain rfl : k = N := by omega
      have hyh : ¬ (y ≤ hi) := by omega
      clear hy
      go_wp2
      go_ret
      exact ⟨⟨V, c, rfl, hown⟩, hB⟩

end Go.Proofs.Ytffbkbcjddigdaa
