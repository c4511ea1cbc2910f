import Derived.Test.YtffbkbcjddigdaaA10
set_option linter.unusedSimpArgs false
set_option linter.unusedVariables false
namespace Go.Proofs.Ytffbkbcjddigdaa
open Go.RowKit

/-- What a load leaves when it is cropped. -/
def M.leaves (f : M.Cf) (a : Int) (b : Bool) : Int := if b then a - a * f.trod / 100 else a
/-- What is remembered of loads is true. -/
def Loads (f : M.Cf) (g : Value → Option Value) : Prop := ∀ k v, g k = some v → ∃ a b, k = .agg #[.int .i64 a, .bool b] ∧ v = .int .i64 (M.leaves f a b)
theorem Loads.at_ {f : M.Cf} {g : Value → Option Value} (h : Loads f g) {a : Int} {b : Bool} {v : Value} (hg : g (.agg #[.int .i64 a, .bool b]) = some v) : v = .int .i64 (M.leaves f a b) := by
  obtain ⟨a', b', hk, hv⟩ := h _ _ hg
  simp at hk
  obtain ⟨rfl, rfl⟩ := hk
  exact hv
open Classical in
theorem Loads.put {f : M.Cf} {g : Value → Option Value} (h : Loads f g) (a : Int) (b : Bool) :
    Loads f (fun k => if k = .agg #[.int .i64 a, .bool b] then some (.int .i64 (M.leaves f a b)) else g k) := by
  intro k v hk
  simp only [] at hk
  split at hk
  · rename_i h1; exact ⟨a, b, h1, by simpa using hk.symm⟩
  · exact h k v hk

set_option maxRecDepth 100000 in
set_option maxHeartbeats 1000000 in
theorem start_c (f : M.Cf) (Ag Aw Ab Ac Al : Option Addr) (ng cg nw cw nb cb nc cc nl cl : Nat) (w : World) :
    Calls Try.prog 55 #[.agg #[.int .i64 f.last, .slice Ag ng cg, .slice Aw nw cw, .slice Ab nb cb, .slice Ac nc cc, .int .i64 f.ripe, .int .i64 f.late, .int .i64 f.trod, .slice Al nl cl]] w fun e w' => (∃ p mb, e = .returned (.pointer (some ⟨p, 0, none⟩)) ∧ w.heap.size ≤ p ∧ w.heap.size ≤ mb ∧ w'.heap[p]? = some (.cells #[.int .i64 f.last, .slice Ag ng cg, .slice Aw nw cw, .slice Ab nb cb, .slice Ac nc cc, .int .i64 f.ripe, .int .i64 f.late, .int .i64 f.trod, .slice Al nl cl, .slice none 0 0, .slice none 0 0, .map (some mb)] 136 (0, 0)) ∧ MapIs Try.prog 143 w' mb (fun _ => none)) ∧ Ev w w' := by
  have hmm := @run_makeMap Try.prog
  go_enter Try.func55, Try.ntmps55
  go_wp2
  go_ret
  refine ⟨⟨_, _, rfl, ?_, ?_, (alloc3 w _ _ _).2.2.1, ?_⟩, Ev.alloc (Ev.alloc (Ev.alloc (Ev.refl _) _) _) _⟩
  · first | (simp; done) | (simp; omega) | omega
  · exact Nat.le_succ _
  · have h1 := MapIs.new Try.prog 143 (w.alloc (.cells #[.int .i64 f.last, .slice Ag ng cg, .slice Aw nw cw, .slice Ab nb cb, .slice Ac nc cc, .int .i64 f.ripe, .int .i64 f.late, .int .i64 f.trod, .slice Al nl cl] 38))
    have h2 := h1.keep (Ev.alloc (Ev.refl _) (.cells #[.int .i64 f.last, .slice Ag ng cg, .slice Aw nw cw, .slice Ab nb cb, .slice Ac nc cc, .int .i64 f.ripe, .int .i64 f.late, .int .i64 f.trod, .slice Al nl cl, .slice none 0 0, .slice none 0 0, .map (some (w.heap.size + 1))] 136)) (by simp)
    simpa using h2

set_option maxRecDepth 100000 in
set_option maxHeartbeats 8000000 in
theorem leaves_c (f : M.Cf) (Ag Aw Ab Ac Al : Option Addr) (ng cg nw cw nb cb nc cc nl cl : Nat) (At As : Option Addr) (nt ct ns cs p mb : Nat) (a : Int) (b : Bool) (a0 : 0 ≤ a) (a1 : a ≤ 1000) (ht : 0 ≤ f.trod ∧ f.trod ≤ 100) (g : Value → Option Value) (hg : Loads f g) (w : World) (hw : w.heap[p]? = some (.cells #[.int .i64 f.last, .slice Ag ng cg, .slice Aw nw cw, .slice Ab nb cb, .slice Ac nc cc, .int .i64 f.ripe, .int .i64 f.late, .int .i64 f.trod, .slice Al nl cl, .slice At nt ct, .slice As ns cs, .map (some mb)] 136 (0, 0))) (hm : MapIs Try.prog 143 w mb g) :
    Calls Try.prog 86 #[.pointer (some ⟨p, 0, none⟩), .agg #[.int .i64 a, .bool b]] w fun e w' => e = .returned (.int .i64 (M.leaves f a b)) ∧ (∃ g', Loads f g' ∧ MapIs Try.prog 143 w' mb g') ∧ Mo mb w w' := by
  obtain ⟨l, hkey⟩ := key151 (a := a) (b := b) (Wf.of (by omega))
  have hlk : ∀ W, MapIs Try.prog 143 W mb g → (Instr.lookup 134 (.map (some mb)) (.agg #[.int .i64 a, .bool b]) true).run Try.prog W = .ok (.tuple #[(g (.agg #[.int .i64 a, .bool b])).getD (.int .i64 0), .bool (g (.agg #[.int .i64 a, .bool b])).isSome]) W := fun W h => MapIs.lookup h law151 Try.underlying134 (fun w => Try.zeroValue3 w) hkey
  have hpl := heap_lt hw
  have hml := hm.lt
  have HW := hid hw
  have HM := hid hm
  have HG := hid hg
  have hpm : p ≠ mb := by
    rintro rfl
    obtain ⟨es, ck, hh, _⟩ := hm
    rw [hw] at hh
    cases hh
  cases hgx : g (.agg #[.int .i64 a, .bool b]) with
  | some v =>
    obtain rfl := hg.at_ hgx
    rw [hgx] at hlk
    simp only [Option.getD_some, Option.isSome_some] at hlk
    have HLK := hid hlk
    clear hgx hg hw hm hlk
    go_enter Try.func86, Try.ntmps86
    go_upto_region 1 with fail
    generalize hW0 : World.alloc _ _ = W0
    have hE0 : Ev w W0 := by rw [← hW0]; exact Ev.alloc (Ev.refl _) _
    have hal := (alloc1 w (.cells #[.int .i64 a, .bool b] 143)).1
    rw [hW0] at hal
    have HP := hid (hE0.heap HW.out)
    have HMM := hid (HM.out.keep hE0 hml)
    obtain ⟨x0, x1⟩ := cells2 hal
    have z11 : W0.cell? ⟨p, 11, none⟩ = some (.map (some mb)) := (cell_in HP.out 11).trans rfl
    have z7 : W0.cell? ⟨p, 7, none⟩ = some (.int .i64 f.trod) := (cell_in HP.out 7).trans rfl
    have hpw : p < W0.heap.size := heap_lt HP.out
    have hww : w.heap.size < W0.heap.size := heap_lt hal
    clear hW0 hal
    refine wp_region_held_drew (S := fun w' => (∀ o, w'.cell? ⟨p, o, none⟩ = W0.cell? ⟨p, o, none⟩) ∧ (∀ o, w'.cell? ⟨w.heap.size, o, none⟩ = W0.cell? ⟨w.heap.size, o, none⟩) ∧ MapIs Try.prog 143 w' mb g) (by kernel_rfl) ⟨fun o => rfl, fun o => rfl, HMM.out.same rfl⟩ (fun hHeld => ?_)
    refine wpAnyH_take (i := 0) (v := ?_) rfl (by kernel_rfl) (by kernel_rfl) (by kernel_rfl) (fun _ _ _ h => h) (Or.inl ⟨by rfl, ?hy⟩) (by assumption) ?_
    case hy => (intro w hSw; (try dsimp only at hSw); go_simp; with_reducible rfl)
    (try simp only [Act.put, List.setIfInBounds_toArray, List.set_cons_zero, List.set_cons_succ])
    refine wpAnyH_take (i := 1) (v := ?_) rfl (by kernel_rfl) (by kernel_rfl) (by kernel_rfl) (fun _ _ _ h => h) (Or.inl ⟨by rfl, ?hy⟩) (by assumption) ?_
    case hy => (intro w hSw; (try dsimp only at hSw); go_simp; with_reducible rfl)
    (try simp only [Act.put, List.setIfInBounds_toArray, List.set_cons_zero, List.set_cons_succ])
    refine wpAnyH_take (i := 2) (v := ?_) rfl (by kernel_rfl) (by kernel_rfl) (by kernel_rfl) (fun _ _ _ h => h) (Or.inl ⟨by rfl, ?hy⟩) (by assumption) ?_
    case hy => (intro w hSw; (try dsimp only at hSw); go_simp; with_reducible rfl)
    (try simp only [Act.put, List.setIfInBounds_toArray, List.set_cons_zero, List.set_cons_succ])
    refine wpAnyH_take (i := 3) (v := ?_) rfl (by kernel_rfl) (by kernel_rfl) (by kernel_rfl) (fun _ _ _ h => h) (Or.inl ⟨by rfl, ?hy⟩) (by assumption) ?_
    case hy => (intro w hSw; (try dsimp only at hSw); go_simp; with_reducible rfl)
    (try simp only [Act.put, List.setIfInBounds_toArray, List.set_cons_zero, List.set_cons_succ])
    refine wpAnyH_take (i := 4) (v := ?_) rfl (by kernel_rfl) (by kernel_rfl) (by kernel_rfl) (fun _ _ _ h => h) (Or.inl ⟨by rfl, ?hy⟩) (by assumption) ?_
    case hy => (intro w hSw; (try dsimp only at hSw); go_simp; with_reducible rfl)
    (try simp only [Act.put, List.setIfInBounds_toArray, List.set_cons_zero, List.set_cons_succ])
    refine wpAnyH_take (i := 5) (v := ?_) rfl (by kernel_rfl) (by kernel_rfl) (by kernel_rfl) (fun _ _ _ h => h) (Or.inl ⟨by rfl, ?hy⟩) (by assumption) ?_
    case hy => (intro w hSw; (try dsimp only at hSw); have hlk5 := HLK.out _ hSw.2.2; go_simp; with_reducible rfl)
    (try simp only [Act.put, List.setIfInBounds_toArray, List.set_cons_zero, List.set_cons_succ])
    refine wpAnyH_take (i := 6) (v := ?_) rfl (by kernel_rfl) (by kernel_rfl) (by kernel_rfl) (fun _ _ _ h => h) (Or.inl ⟨by rfl, ?hy⟩) (by assumption) ?_
    case hy => (intro w hSw; (try dsimp only at hSw); go_simp; with_reducible rfl)
    (try simp only [Act.put, List.setIfInBounds_toArray, List.set_cons_zero, List.set_cons_succ])
    refine wpAnyH_take (i := 7) (v := ?_) rfl (by kernel_rfl) (by kernel_rfl) (by kernel_rfl) (fun _ _ _ h => h) (Or.inl ⟨by rfl, ?hy⟩) (by assumption) ?_
    case hy => (intro w hSw; (try dsimp only at hSw); go_simp; with_reducible rfl)
    (try simp only [Act.put, List.setIfInBounds_toArray, List.set_cons_zero, List.set_cons_succ])
    refine wpAnyH_take (i := 8) (v := ?_) rfl (by kernel_rfl) (by kernel_rfl) (by kernel_rfl) (fun _ _ _ h => h) (Or.inl ⟨by rfl, ?hy⟩) (by assumption) ?_
    case hy => (intro w hSw; (try dsimp only at hSw); go_simp; with_reducible rfl)
    (try simp only [Act.put, List.setIfInBounds_toArray, List.set_cons_zero, List.set_cons_succ])
    refine wpAnyH_take (i := 9) (v := ?_) rfl (by kernel_rfl) (by kernel_rfl) (by kernel_rfl) (fun _ _ _ h => h) (Or.inl ⟨by rfl, ?hy⟩) (by assumption) ?_
    case hy => (intro w hSw; (try dsimp only at hSw); go_simp; with_reducible rfl)
    (try simp only [Act.put, List.setIfInBounds_toArray, List.set_cons_zero, List.set_cons_succ])
    refine wpAnyH_take (i := 10) (v := ?_) rfl (by kernel_rfl) (by kernel_rfl) (by kernel_rfl) (fun _ _ _ h => h) (Or.inl ⟨by rfl, ?hy⟩) (by assumption) ?_
    case hy => (intro w hSw; (try dsimp only at hSw); go_simp; with_reducible rfl)
    (try simp only [Act.put, List.setIfInBounds_toArray, List.set_cons_zero, List.set_cons_succ])
    refine wpAnyH_done (by kernel_rfl) ?_ _
    go_wp2_with (fail)
    go_ret
    exact ⟨rfl, ⟨g, HG.out, HMM.out.same rfl⟩, (Mo.ev hE0).drew⟩
  | none =>
    rw [hgx] at hlk
    simp only [Option.getD_none, Option.isSome_none] at hlk
    have HLK := hid hlk
    clear hgx hg hw hm hlk
    obtain ⟨q, hq⟩ : ∃ q : Int, a * f.trod = q := ⟨_, rfl⟩
    have hq0 : 0 ≤ q := by rw [← hq]; exact Int.mul_nonneg (by omega) (by omega)
    have hq1 : q ≤ 1000 * 100 := by rw [← hq]; exact Int.mul_le_mul (by omega) (by omega) (by omega) (by omega)
    have t1 : q.tdiv 100 = q / 100 := Int.tdiv_eq_ediv_of_nonneg hq0
    have s1 : IntKind.i64.wrap q = q := IntWalk.i64_in _ (by omega)
    obtain ⟨d, hd⟩ : ∃ d : Int, q / 100 = d := ⟨_, rfl⟩
    have s2 : IntKind.i64.wrap d = d := IntWalk.i64_in _ (by omega)
    have s3 : IntKind.i64.wrap (a - d) = a - d := IntWalk.i64_in _ (by omega)
    have HLV := hid (show M.leaves f a true = a - d by unfold M.leaves; rw [if_pos rfl, hq, hd])
    have HLF := hid (show M.leaves f a false = a from rfl)
    cases b
    · go_enter Try.func86, Try.ntmps86
      go_upto_region 1 with fail
      generalize hW0 : World.alloc _ _ = W0
      have hE0 : Ev w W0 := by rw [← hW0]; exact Ev.alloc (Ev.refl _) _
      have hal := (alloc1 w (.cells #[.int .i64 a, .bool false] 143)).1
      rw [hW0] at hal
      have HP := hid (hE0.heap HW.out)
      have HMM := hid (HM.out.keep hE0 hml)
      obtain ⟨x0, x1⟩ := cells2 hal
      have z11 : W0.cell? ⟨p, 11, none⟩ = some (.map (some mb)) := (cell_in HP.out 11).trans rfl
      have z7 : W0.cell? ⟨p, 7, none⟩ = some (.int .i64 f.trod) := (cell_in HP.out 7).trans rfl
      have hpw : p < W0.heap.size := heap_lt HP.out
      have hww : w.heap.size < W0.heap.size := heap_lt hal
      clear hW0 hal
      refine wp_region_held_drew (S := fun w' => (∀ o, w'.cell? ⟨p, o, none⟩ = W0.cell? ⟨p, o, none⟩) ∧ (∀ o, w'.cell? ⟨w.heap.size, o, none⟩ = W0.cell? ⟨w.heap.size, o, none⟩) ∧ MapIs Try.prog 143 w' mb g) (by kernel_rfl) ⟨fun o => rfl, fun o => rfl, HMM.out.same rfl⟩ (fun hHeld => ?_)
      refine wpAnyH_take (i := 0) (v := ?_) rfl (by kernel_rfl) (by kernel_rfl) (by kernel_rfl) (fun _ _ _ h => h) (Or.inl ⟨by rfl, ?hy⟩) (by assumption) ?_
      case hy => (intro w hSw; (try dsimp only at hSw); go_simp; with_reducible rfl)
      (try simp only [Act.put, List.setIfInBounds_toArray, List.set_cons_zero, List.set_cons_succ])
      refine wpAnyH_take (i := 1) (v := ?_) rfl (by kernel_rfl) (by kernel_rfl) (by kernel_rfl) (fun _ _ _ h => h) (Or.inl ⟨by rfl, ?hy⟩) (by assumption) ?_
      case hy => (intro w hSw; (try dsimp only at hSw); go_simp; with_reducible rfl)
      (try simp only [Act.put, List.setIfInBounds_toArray, List.set_cons_zero, List.set_cons_succ])
      refine wpAnyH_take (i := 2) (v := ?_) rfl (by kernel_rfl) (by kernel_rfl) (by kernel_rfl) (fun _ _ _ h => h) (Or.inl ⟨by rfl, ?hy⟩) (by assumption) ?_
      case hy => (intro w hSw; (try dsimp only at hSw); go_simp; with_reducible rfl)
      (try simp only [Act.put, List.setIfInBounds_toArray, List.set_cons_zero, List.set_cons_succ])
      refine wpAnyH_take (i := 3) (v := ?_) rfl (by kernel_rfl) (by kernel_rfl) (by kernel_rfl) (fun _ _ _ h => h) (Or.inl ⟨by rfl, ?hy⟩) (by assumption) ?_
      case hy => (intro w hSw; (try dsimp only at hSw); go_simp; with_reducible rfl)
      (try simp only [Act.put, List.setIfInBounds_toArray, List.set_cons_zero, List.set_cons_succ])
      refine wpAnyH_take (i := 4) (v := ?_) rfl (by kernel_rfl) (by kernel_rfl) (by kernel_rfl) (fun _ _ _ h => h) (Or.inl ⟨by rfl, ?hy⟩) (by assumption) ?_
      case hy => (intro w hSw; (try dsimp only at hSw); go_simp; with_reducible rfl)
      (try simp only [Act.put, List.setIfInBounds_toArray, List.set_cons_zero, List.set_cons_succ])
      refine wpAnyH_take (i := 5) (v := ?_) rfl (by kernel_rfl) (by kernel_rfl) (by kernel_rfl) (fun _ _ _ h => h) (Or.inl ⟨by rfl, ?hy⟩) (by assumption) ?_
      case hy => (intro w hSw; (try dsimp only at hSw); have hlk5 := HLK.out _ hSw.2.2; go_simp; with_reducible rfl)
      (try simp only [Act.put, List.setIfInBounds_toArray, List.set_cons_zero, List.set_cons_succ])
      refine wpAnyH_take (i := 6) (v := ?_) rfl (by kernel_rfl) (by kernel_rfl) (by kernel_rfl) (fun _ _ _ h => h) (Or.inl ⟨by rfl, ?hy⟩) (by assumption) ?_
      case hy => (intro w hSw; (try dsimp only at hSw); go_simp; with_reducible rfl)
      (try simp only [Act.put, List.setIfInBounds_toArray, List.set_cons_zero, List.set_cons_succ])
      refine wpAnyH_take (i := 7) (v := ?_) rfl (by kernel_rfl) (by kernel_rfl) (by kernel_rfl) (fun _ _ _ h => h) (Or.inl ⟨by rfl, ?hy⟩) (by assumption) ?_
      case hy => (intro w hSw; (try dsimp only at hSw); go_simp; with_reducible rfl)
      (try simp only [Act.put, List.setIfInBounds_toArray, List.set_cons_zero, List.set_cons_succ])
      refine wpAnyH_take (i := 8) (v := ?_) rfl (by kernel_rfl) (by kernel_rfl) (by kernel_rfl) (fun _ _ _ h => h) (Or.inl ⟨by rfl, ?hy⟩) (by assumption) ?_
      case hy => (intro w hSw; (try dsimp only at hSw); go_simp; with_reducible rfl)
      (try simp only [Act.put, List.setIfInBounds_toArray, List.set_cons_zero, List.set_cons_succ])
      refine wpAnyH_take (i := 9) (v := ?_) rfl (by kernel_rfl) (by kernel_rfl) (by kernel_rfl) (fun _ _ _ h => h) (Or.inl ⟨by rfl, ?hy⟩) (by assumption) ?_
      case hy => (intro w hSw; (try dsimp only at hSw); go_simp; with_reducible rfl)
      (try simp only [Act.put, List.setIfInBounds_toArray, List.set_cons_zero, List.set_cons_succ])
      refine wpAnyH_take (i := 10) (v := ?_) rfl (by kernel_rfl) (by kernel_rfl) (by kernel_rfl) (fun _ _ _ h => h) (Or.inl ⟨by rfl, ?hy⟩) (by assumption) ?_
      case hy => (intro w hSw; (try dsimp only at hSw); go_simp; with_reducible rfl)
      (try simp only [Act.put, List.setIfInBounds_toArray, List.set_cons_zero, List.set_cons_succ])
      refine wpAnyH_done (by kernel_rfl) ?_ _
      go_upto_region 6 with fail
      generalize hW6 : World.drew _ = W6
      have hE6 : Ev W0 W6 := by rw [← hW6]; exact Ev.drew (Ev.refl _)
      have hE6w := hE0.trans hE6
      have y0 : W6.cell? ⟨w.heap.size, 0, none⟩ = some (.int .i64 a) := (hE6.cells.1 _ _ hww).trans x0
      have y1 : W6.cell? ⟨w.heap.size, 1, none⟩ = some (.bool false) := (hE6.cells.1 _ _ hww).trans x1
      have y11 : W6.cell? ⟨p, 11, none⟩ = some (.map (some mb)) := (hE6.cells.1 _ _ hpw).trans z11
      have hM6 : MapIs Try.prog 143 W6.drew mb g := (HMM.out.keep hE6 (HMM.out.lt)).same rfl
      obtain ⟨w7, hrun, hM7, hgr⟩ := hM6.update law151 Try.underlying134 hkey (v := .int .i64 (a))
      have HM7 := hid hM7
      have HGR := hid hgr
      have hpw6 : p < W6.heap.size := by have := hE6.size; omega
      have hww6 : w.heap.size < W6.heap.size := by have := hE6.size; omega
      have HS7 : Hid ((∀ o, w7.cell? ⟨p, o, none⟩ = W6.cell? ⟨p, o, none⟩) ∧ (∀ o, w7.cell? ⟨w.heap.size, o, none⟩ = W6.cell? ⟨w.heap.size, o, none⟩)) := hid ⟨fun o => (Mo.cells (show Mo mb W6.drew w7 from hgr)).1 p o hpw6 hpm, fun o => (Mo.cells (show Mo mb W6.drew w7 from hgr)).1 w.heap.size o hww6 (by omega)⟩
      clear hM6 hM7 hgr hW6 x0 x1 z11 z7
      refine wp_region_held_drew (S := fun w' => (∀ o, w'.cell? ⟨p, o, none⟩ = W6.cell? ⟨p, o, none⟩) ∧ (∀ o, w'.cell? ⟨w.heap.size, o, none⟩ = W6.cell? ⟨w.heap.size, o, none⟩)) (by kernel_rfl) ⟨fun o => rfl, fun o => rfl⟩ (fun hHeld => ?_)
      refine wpAnyH_take (i := 0) (v := ?_) rfl (by kernel_rfl) (by kernel_rfl) (by kernel_rfl) (fun _ _ _ h => h) (Or.inl ⟨by rfl, ?hy⟩) (by assumption) ?_
      case hy => (intro w hSw; (try dsimp only at hSw); go_simp; with_reducible rfl)
      (try simp only [Act.put, List.setIfInBounds_toArray, List.set_cons_zero, List.set_cons_succ])
      refine wpAnyH_take (i := 1) (v := ?_) rfl (by kernel_rfl) (by kernel_rfl) (by kernel_rfl) (fun _ _ _ h => h) (Or.inl ⟨by rfl, ?hy⟩) (by assumption) ?_
      case hy => (intro w hSw; (try dsimp only at hSw); go_simp; with_reducible rfl)
      (try simp only [Act.put, List.setIfInBounds_toArray, List.set_cons_zero, List.set_cons_succ])
      refine wpAnyH_take (i := 2) (v := ?_) rfl (by kernel_rfl) (by kernel_rfl) (by kernel_rfl) (fun _ _ _ h => h) (Or.inl ⟨by rfl, ?hy⟩) (by assumption) ?_
      case hy => (intro w hSw; (try dsimp only at hSw); go_simp; with_reducible rfl)
      (try simp only [Act.put, List.setIfInBounds_toArray, List.set_cons_zero, List.set_cons_succ])
      refine wpAnyH_take (i := 3) (v := ?_) rfl (by kernel_rfl) (by kernel_rfl) (by kernel_rfl) (fun _ _ _ h => h) (Or.inl ⟨by rfl, ?hy⟩) (by assumption) ?_
      case hy => (intro w hSw; (try dsimp only at hSw); go_simp; with_reducible rfl)
      (try simp only [Act.put, List.setIfInBounds_toArray, List.set_cons_zero, List.set_cons_succ])
      refine wpAnyH_take (i := 4) (v := ?_) rfl (by kernel_rfl) (by kernel_rfl) (by kernel_rfl) (fun _ _ _ h => h) (Or.inl ⟨by rfl, ?hy⟩) (by assumption) ?_
      case hy => (intro w hSw; (try dsimp only at hSw); go_simp; with_reducible rfl)
      (try simp only [Act.put, List.setIfInBounds_toArray, List.set_cons_zero, List.set_cons_succ])
      refine wpAnyH_take (i := 5) (v := ?_) rfl (by kernel_rfl) (by kernel_rfl) (by kernel_rfl) (fun _ _ _ h => h) (Or.inl ⟨by rfl, ?hy⟩) (by assumption) ?_
      case hy => (intro w hSw; (try dsimp only at hSw); go_simp; with_reducible rfl)
      (try simp only [Act.put, List.setIfInBounds_toArray, List.set_cons_zero, List.set_cons_succ])
      refine wpAnyH_ready (rs := [6]) (by kernel_rfl) (by simp) ?_
      refine AllReadyH.cons rfl (fun K hK => ?_) AllReadyH.nil
      go_simp
      refine hK.out _ _ (HS7.out) (fun hHeld => ?_)
      clear hK K
      (try simp only [Act.put, List.setIfInBounds_toArray, List.set_cons_zero, List.set_cons_succ])
      refine wpAnyH_done (by kernel_rfl) ?_ _
      go_wp2_with fail
      go_ret
      refine ⟨by rw [HLF.out]; rfl, ⟨_, ?_, HM7.out⟩, (Mo.ev (Ev.drew hE6w)).trans (show Mo mb W6.drew w7 from HGR.out)⟩
      rw [← HLF.out]
      exact HG.out.put a false
    · go_enter Try.func86, Try.ntmps86
      go_upto_region 1 with fail
      generalize hW0 : World.alloc _ _ = W0
      have hE0 : Ev w W0 := by rw [← hW0]; exact Ev.alloc (Ev.refl _) _
      have hal := (alloc1 w (.cells #[.int .i64 a, .bool true] 143)).1
      rw [hW0] at hal
      have HP := hid (hE0.heap HW.out)
      have HMM := hid (HM.out.keep hE0 hml)
      obtain ⟨x0, x1⟩ := cells2 hal
      have z11 : W0.cell? ⟨p, 11, none⟩ = some (.map (some mb)) := (cell_in HP.out 11).trans rfl
      have z7 : W0.cell? ⟨p, 7, none⟩ = some (.int .i64 f.trod) := (cell_in HP.out 7).trans rfl
      have hpw : p < W0.heap.size := heap_lt HP.out
      have hww : w.heap.size < W0.heap.size := heap_lt hal
      clear hW0 hal
      refine wp_region_held_drew (S := fun w' => (∀ o, w'.cell? ⟨p, o, none⟩ = W0.cell? ⟨p, o, none⟩) ∧ (∀ o, w'.cell? ⟨w.heap.size, o, none⟩ = W0.cell? ⟨w.heap.size, o, none⟩) ∧ MapIs Try.prog 143 w' mb g) (by kernel_rfl) ⟨fun o => rfl, fun o => rfl, HMM.out.same rfl⟩ (fun hHeld => ?_)
      refine wpAnyH_take (i := 0) (v := ?_) rfl (by kernel_rfl) (by kernel_rfl) (by kernel_rfl) (fun _ _ _ h => h) (Or.inl ⟨by rfl, ?hy⟩) (by assumption) ?_
      case hy => (intro w hSw; (try dsimp only at hSw); go_simp; with_reducible rfl)
      (try simp only [Act.put, List.setIfInBounds_toArray, List.set_cons_zero, List.set_cons_succ])
      refine wpAnyH_take (i := 1) (v := ?_) rfl (by kernel_rfl) (by kernel_rfl) (by kernel_rfl) (fun _ _ _ h => h) (Or.inl ⟨by rfl, ?hy⟩) (by assumption) ?_
      case hy => (intro w hSw; (try dsimp only at hSw); go_simp; with_reducible rfl)
      (try simp only [Act.put, List.setIfInBounds_toArray, List.set_cons_zero, List.set_cons_succ])
      refine wpAnyH_take (i := 2) (v := ?_) rfl (by kernel_rfl) (by kernel_rfl) (by kernel_rfl) (fun _ _ _ h => h) (Or.inl ⟨by rfl, ?hy⟩) (by assumption) ?_
      case hy => (intro w hSw; (try dsimp only at hSw); go_simp; with_reducible rfl)
      (try simp only [Act.put, List.setIfInBounds_toArray, List.set_cons_zero, List.set_cons_succ])
      refine wpAnyH_take (i := 3) (v := ?_) rfl (by kernel_rfl) (by kernel_rfl) (by kernel_rfl) (fun _ _ _ h => h) (Or.inl ⟨by rfl, ?hy⟩) (by assumption) ?_
      case hy => (intro w hSw; (try dsimp only at hSw); go_simp; with_reducible rfl)
      (try simp only [Act.put, List.setIfInBounds_toArray, List.set_cons_zero, List.set_cons_succ])
      refine wpAnyH_take (i := 4) (v := ?_) rfl (by kernel_rfl) (by kernel_rfl) (by kernel_rfl) (fun _ _ _ h => h) (Or.inl ⟨by rfl, ?hy⟩) (by assumption) ?_
      case hy => (intro w hSw; (try dsimp only at hSw); go_simp; with_reducible rfl)
      (try simp only [Act.put, List.setIfInBounds_toArray, List.set_cons_zero, List.set_cons_succ])
      refine wpAnyH_take (i := 5) (v := ?_) rfl (by kernel_rfl) (by kernel_rfl) (by kernel_rfl) (fun _ _ _ h => h) (Or.inl ⟨by rfl, ?hy⟩) (by assumption) ?_
      case hy => (intro w hSw; (try dsimp only at hSw); have hlk5 := HLK.out _ hSw.2.2; go_simp; with_reducible rfl)
      (try simp only [Act.put, List.setIfInBounds_toArray, List.set_cons_zero, List.set_cons_succ])
      refine wpAnyH_take (i := 6) (v := ?_) rfl (by kernel_rfl) (by kernel_rfl) (by kernel_rfl) (fun _ _ _ h => h) (Or.inl ⟨by rfl, ?hy⟩) (by assumption) ?_
      case hy => (intro w hSw; (try dsimp only at hSw); go_simp; with_reducible rfl)
      (try simp only [Act.put, List.setIfInBounds_toArray, List.set_cons_zero, List.set_cons_succ])
      refine wpAnyH_take (i := 7) (v := ?_) rfl (by kernel_rfl) (by kernel_rfl) (by kernel_rfl) (fun _ _ _ h => h) (Or.inl ⟨by rfl, ?hy⟩) (by assumption) ?_
      case hy => (intro w hSw; (try dsimp only at hSw); go_simp; with_reducible rfl)
      (try simp only [Act.put, List.setIfInBounds_toArray, List.set_cons_zero, List.set_cons_succ])
      refine wpAnyH_take (i := 8) (v := ?_) rfl (by kernel_rfl) (by kernel_rfl) (by kernel_rfl) (fun _ _ _ h => h) (Or.inl ⟨by rfl, ?hy⟩) (by assumption) ?_
      case hy => (intro w hSw; (try dsimp only at hSw); go_simp; with_reducible rfl)
      (try simp only [Act.put, List.setIfInBounds_toArray, List.set_cons_zero, List.set_cons_succ])
      refine wpAnyH_take (i := 9) (v := ?_) rfl (by kernel_rfl) (by kernel_rfl) (by kernel_rfl) (fun _ _ _ h => h) (Or.inl ⟨by rfl, ?hy⟩) (by assumption) ?_
      case hy => (intro w hSw; (try dsimp only at hSw); go_simp; with_reducible rfl)
      (try simp only [Act.put, List.setIfInBounds_toArray, List.set_cons_zero, List.set_cons_succ])
      refine wpAnyH_take (i := 10) (v := ?_) rfl (by kernel_rfl) (by kernel_rfl) (by kernel_rfl) (fun _ _ _ h => h) (Or.inl ⟨by rfl, ?hy⟩) (by assumption) ?_
      case hy => (intro w hSw; (try dsimp only at hSw); go_simp; with_reducible rfl)
      (try simp only [Act.put, List.setIfInBounds_toArray, List.set_cons_zero, List.set_cons_succ])
      refine wpAnyH_done (by kernel_rfl) ?_ _
      go_upto_region 5 with fail
      refine wp_region_held_drew (S := fun w' => (∀ o, w'.cell? ⟨p, o, none⟩ = W0.cell? ⟨p, o, none⟩) ∧ (∀ o, w'.cell? ⟨w.heap.size, o, none⟩ = W0.cell? ⟨w.heap.size, o, none⟩)) (by kernel_rfl) ⟨fun o => rfl, fun o => rfl⟩ (fun hHeld => ?_)
      refine wpAnyH_take (i := 0) (v := ?_) rfl (by kernel_rfl) (by kernel_rfl) (by kernel_rfl) (fun _ _ _ h => h) (Or.inl ⟨by rfl, ?hy⟩) (by assumption) ?_
      case hy => (intro w hSw; (try dsimp only at hSw); go_simp; with_reducible rfl)
      (try simp only [Act.put, List.setIfInBounds_toArray, List.set_cons_zero, List.set_cons_succ])
      refine wpAnyH_take (i := 1) (v := ?_) rfl (by kernel_rfl) (by kernel_rfl) (by kernel_rfl) (fun _ _ _ h => h) (Or.inl ⟨by rfl, ?hy⟩) (by assumption) ?_
      case hy => (intro w hSw; (try dsimp only at hSw); go_simp; with_reducible rfl)
      (try simp only [Act.put, List.setIfInBounds_toArray, List.set_cons_zero, List.set_cons_succ])
      refine wpAnyH_take (i := 2) (v := ?_) rfl (by kernel_rfl) (by kernel_rfl) (by kernel_rfl) (fun _ _ _ h => h) (Or.inl ⟨by rfl, ?hy⟩) (by assumption) ?_
      case hy => (intro w hSw; (try dsimp only at hSw); go_simp; with_reducible rfl)
      (try simp only [Act.put, List.setIfInBounds_toArray, List.set_cons_zero, List.set_cons_succ])
      refine wpAnyH_take (i := 3) (v := ?_) rfl (by kernel_rfl) (by kernel_rfl) (by kernel_rfl) (fun _ _ _ h => h) (Or.inl ⟨by rfl, ?hy⟩) (by assumption) ?_
      case hy => (intro w hSw; (try dsimp only at hSw); go_simp; with_reducible rfl)
      (try simp only [Act.put, List.setIfInBounds_toArray, List.set_cons_zero, List.set_cons_succ])
      refine wpAnyH_take (i := 4) (v := ?_) rfl (by kernel_rfl) (by kernel_rfl) (by kernel_rfl) (fun _ _ _ h => h) (Or.inl ⟨by rfl, ?hy⟩) (by assumption) ?_
      case hy => (intro w hSw; (try dsimp only at hSw); go_simp; with_reducible rfl)
      (try simp only [Act.put, List.setIfInBounds_toArray, List.set_cons_zero, List.set_cons_succ])
      refine wpAnyH_take (i := 5) (v := ?_) rfl (by kernel_rfl) (by kernel_rfl) (by kernel_rfl) (fun _ _ _ h => h) (Or.inl ⟨by rfl, ?hy⟩) (by assumption) ?_
      case hy => (intro w hSw; (try dsimp only at hSw); go_simp; with_reducible rfl)
      (try simp only [Act.put, List.setIfInBounds_toArray, List.set_cons_zero, List.set_cons_succ])
      refine wpAnyH_take (i := 6) (v := ?_) rfl (by kernel_rfl) (by kernel_rfl) (by kernel_rfl) (fun _ _ _ h => h) (Or.inl ⟨by rfl, ?hy⟩) (by assumption) ?_
      case hy => (intro w hSw; (try dsimp only at hSw); go_simp; with_reducible rfl)
      (try simp only [Act.put, List.setIfInBounds_toArray, List.set_cons_zero, List.set_cons_succ])
      refine wpAnyH_take (i := 7) (v := ?_) rfl (by kernel_rfl) (by kernel_rfl) (by kernel_rfl) (fun _ _ _ h => h) (Or.inl ⟨by rfl, ?hy⟩) (by assumption) ?_
      case hy => (intro w hSw; (try dsimp only at hSw); go_simp; with_reducible rfl)
      (try simp only [Act.put, List.setIfInBounds_toArray, List.set_cons_zero, List.set_cons_succ])
      refine wpAnyH_take (i := 8) (v := ?_) rfl (by kernel_rfl) (by kernel_rfl) (by kernel_rfl) (fun _ _ _ h => h) (Or.inl ⟨by rfl, ?hy⟩) (by assumption) ?_
      case hy => (intro w hSw; (try dsimp only at hSw); go_simp; with_reducible rfl)
      (try simp only [Act.put, List.setIfInBounds_toArray, List.set_cons_zero, List.set_cons_succ])
      refine wpAnyH_take (i := 9) (v := ?_) rfl (by kernel_rfl) (by kernel_rfl) (by kernel_rfl) (fun _ _ _ h => h) (Or.inl ⟨by rfl, ?hy⟩) (by assumption) ?_
      case hy => (intro w hSw; (try dsimp only at hSw); go_simp; with_reducible rfl)
      (try simp only [Act.put, List.setIfInBounds_toArray, List.set_cons_zero, List.set_cons_succ])
      refine wpAnyH_take (i := 10) (v := ?_) rfl (by kernel_rfl) (by kernel_rfl) (by kernel_rfl) (fun _ _ _ h => h) (Or.inl ⟨by rfl, ?hy⟩) (by assumption) ?_
      case hy => (intro w hSw; (try dsimp only at hSw); go_simp; with_reducible rfl)
      (try simp only [Act.put, List.setIfInBounds_toArray, List.set_cons_zero, List.set_cons_succ])
      refine wpAnyH_take (i := 11) (v := ?_) rfl (by kernel_rfl) (by kernel_rfl) (by kernel_rfl) (fun _ _ _ h => h) (Or.inl ⟨by rfl, ?hy⟩) (by assumption) ?_
      case hy => (intro w hSw; (try dsimp only at hSw); go_simp; with_reducible rfl)
      (try simp only [Act.put, List.setIfInBounds_toArray, List.set_cons_zero, List.set_cons_succ])
      refine wpAnyH_done (by kernel_rfl) ?_ _
      go_upto_region 6 with fail
      generalize hW6 : World.drew (World.drew _) = W6
      have hE6 : Ev W0 W6 := by rw [← hW6]; exact Ev.drew (Ev.drew (Ev.refl _))
      have hE6w := hE0.trans hE6
      have y0 : W6.cell? ⟨w.heap.size, 0, none⟩ = some (.int .i64 a) := (hE6.cells.1 _ _ hww).trans x0
      have y1 : W6.cell? ⟨w.heap.size, 1, none⟩ = some (.bool true) := (hE6.cells.1 _ _ hww).trans x1
      have y11 : W6.cell? ⟨p, 11, none⟩ = some (.map (some mb)) := (hE6.cells.1 _ _ hpw).trans z11
      have hM6 : MapIs Try.prog 143 W6.drew mb g := (HMM.out.keep hE6 (HMM.out.lt)).same rfl
      obtain ⟨w7, hrun, hM7, hgr⟩ := hM6.update law151 Try.underlying134 hkey (v := .int .i64 (a - d))
      have HM7 := hid hM7
      have HGR := hid hgr
      have hpw6 : p < W6.heap.size := by have := hE6.size; omega
      have hww6 : w.heap.size < W6.heap.size := by have := hE6.size; omega
      have HS7 : Hid ((∀ o, w7.cell? ⟨p, o, none⟩ = W6.cell? ⟨p, o, none⟩) ∧ (∀ o, w7.cell? ⟨w.heap.size, o, none⟩ = W6.cell? ⟨w.heap.size, o, none⟩)) := hid ⟨fun o => (Mo.cells (show Mo mb W6.drew w7 from hgr)).1 p o hpw6 hpm, fun o => (Mo.cells (show Mo mb W6.drew w7 from hgr)).1 w.heap.size o hww6 (by omega)⟩
      clear hM6 hM7 hgr hW6 x0 x1 z11 z7
      refine wp_region_held_drew (S := fun w' => (∀ o, w'.cell? ⟨p, o, none⟩ = W6.cell? ⟨p, o, none⟩) ∧ (∀ o, w'.cell? ⟨w.heap.size, o, none⟩ = W6.cell? ⟨w.heap.size, o, none⟩)) (by kernel_rfl) ⟨fun o => rfl, fun o => rfl⟩ (fun hHeld => ?_)
      refine wpAnyH_take (i := 0) (v := ?_) rfl (by kernel_rfl) (by kernel_rfl) (by kernel_rfl) (fun _ _ _ h => h) (Or.inl ⟨by rfl, ?hy⟩) (by assumption) ?_
      case hy => (intro w hSw; (try dsimp only at hSw); go_simp; with_reducible rfl)
      (try simp only [Act.put, List.setIfInBounds_toArray, List.set_cons_zero, List.set_cons_succ])
      refine wpAnyH_take (i := 1) (v := ?_) rfl (by kernel_rfl) (by kernel_rfl) (by kernel_rfl) (fun _ _ _ h => h) (Or.inl ⟨by rfl, ?hy⟩) (by assumption) ?_
      case hy => (intro w hSw; (try dsimp only at hSw); go_simp; with_reducible rfl)
      (try simp only [Act.put, List.setIfInBounds_toArray, List.set_cons_zero, List.set_cons_succ])
      refine wpAnyH_take (i := 2) (v := ?_) rfl (by kernel_rfl) (by kernel_rfl) (by kernel_rfl) (fun _ _ _ h => h) (Or.inl ⟨by rfl, ?hy⟩) (by assumption) ?_
      case hy => (intro w hSw; (try dsimp only at hSw); go_simp; with_reducible rfl)
      (try simp only [Act.put, List.setIfInBounds_toArray, List.set_cons_zero, List.set_cons_succ])
      refine wpAnyH_take (i := 3) (v := ?_) rfl (by kernel_rfl) (by kernel_rfl) (by kernel_rfl) (fun _ _ _ h => h) (Or.inl ⟨by rfl, ?hy⟩) (by assumption) ?_
      case hy => (intro w hSw; (try dsimp only at hSw); go_simp; with_reducible rfl)
      (try simp only [Act.put, List.setIfInBounds_toArray, List.set_cons_zero, List.set_cons_succ])
      refine wpAnyH_take (i := 4) (v := ?_) rfl (by kernel_rfl) (by kernel_rfl) (by kernel_rfl) (fun _ _ _ h => h) (Or.inl ⟨by rfl, ?hy⟩) (by assumption) ?_
      case hy => (intro w hSw; (try dsimp only at hSw); go_simp; with_reducible rfl)
      (try simp only [Act.put, List.setIfInBounds_toArray, List.set_cons_zero, List.set_cons_succ])
      refine wpAnyH_take (i := 5) (v := ?_) rfl (by kernel_rfl) (by kernel_rfl) (by kernel_rfl) (fun _ _ _ h => h) (Or.inl ⟨by rfl, ?hy⟩) (by assumption) ?_
      case hy => (intro w hSw; (try dsimp only at hSw); go_simp; with_reducible rfl)
      (try simp only [Act.put, List.setIfInBounds_toArray, List.set_cons_zero, List.set_cons_succ])
      refine wpAnyH_ready (rs := [6]) (by kernel_rfl) (by simp) ?_
      refine AllReadyH.cons rfl (fun K hK => ?_) AllReadyH.nil
      go_simp
      refine hK.out _ _ (HS7.out) (fun hHeld => ?_)
      clear hK K
      (try simp only [Act.put, List.setIfInBounds_toArray, List.set_cons_zero, List.set_cons_succ])
      refine wpAnyH_done (by kernel_rfl) ?_ _
      go_wp2_with fail
      go_ret
      refine ⟨by rw [HLV.out]; rfl, ⟨_, ?_, HM7.out⟩, (Mo.ev (Ev.drew hE6w)).trans (show Mo mb W6.drew w7 from HGR.out)⟩
      rw [← HLV.out]
      exact HG.out.put a true

end Go.Proofs.Ytffbkbcjddigdaa
