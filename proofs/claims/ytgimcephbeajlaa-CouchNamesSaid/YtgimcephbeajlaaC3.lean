import Derived.Test.YtgimcephbeajlaaC2
set_option linter.unusedSimpArgs false
set_option linter.unusedVariables false
namespace Go.Proofs.Ytgimcephbeajlaa
open Go.RowKit

open Go.WideMaps (KeyLaw)
theorem wide151 : (match Try.prog.underlying 139 with | some (.array _ _) | some (.struct _) => true | _ => false) = true := by rw [Try.underlying139]
theorem row151 : (139 : TypeId) < Try.prog.types.size := by rw [show Try.prog.types.size = 192 from Try.types_size]; decide
set_option maxRecDepth 100000 in
theorem law151 : KeyLaw Try.prog 139 := deep_law_laid laidOut (m := 2) (by omega) row151 (by kernel_rfl) wide151
theorem lits4_ (d : Nat) (b : Bool) : Try.prog.keyLits (d + 1) 4 [.bool b] = some [.bool b] := by
 unfold Program.keyLits
 rw [Try.underlying4]
theorem lits3_ (d : Nat) (n : Int) (hn : Wf n) : Try.prog.keyLits (d + 1) 3 [.int .i64 n] = some [.int .i64 n] := by
 unfold Program.keyLits
 rw [Try.underlying3]
 simp only []
 rw [if_pos ⟨trivial, hn⟩]
set_option maxRecDepth 100000 in
theorem key151 {a : Int} {b : Bool} (ha : Wf a) : ∃ l, keyOf Try.prog 139 (.agg #[.int .i64 a, .bool b]) = some l := by
 have hk : Try.prog.keyType 139 = true := by kernel_rfl
 have hcl : Try.prog.cellsOf 139 = 2 := by kernel_rfl
 have hc3 : Try.prog.cellsOf 3 = 1 := by kernel_rfl
 have hc4 : Try.prog.cellsOf 4 = 1 := by kernel_rfl
 have hf : (Value.agg #[Value.int .i64 a, .bool b]).formed Try.prog 139 = true := by simp [Value.formed, Try.underlying139, hcl]
 have hsz : Try.prog.types.size = 192 := Try.types_size
 unfold keyOf
 rw [Try.underlying139]
 simp only [hk, hf, Bool.and_self, if_true, hsz]
 unfold Program.keyLits
 rw [Try.underlying139]
 simp [hcl, hc3, hc4, Value.cells, lits3_ 191 a ha, lits4_ 191 b]

/-- The numbers from lo, so many. -/
def M.fromTo (lo : Int) : Nat → List Int
 | 0 => []
 | k + 1 => M.fromTo lo k ++ [lo + k]
theorem M.fromTo_len (lo : Int) : ∀ k, (M.fromTo lo k).length = k
 | 0 => rfl
 | k + 1 => by rw [M.fromTo, List.length_append, M.fromTo_len lo k]; rfl
theorem info3' : (Try.prog.info? 3).map (fun i => (i.zero, i.size, i.bytes)) = some (some (.int .i64 0), 1, 8) := by kernel_rfl

set_option maxRecDepth 100000 in
set_option maxHeartbeats 2000000 in
theorem fromTo_c (lo hi : Int) (N : Nat) (hN : lo + N = hi + 1) (h0 : -1000 ≤ lo) (h1 : hi ≤ 1000) (w : World) :
  Calls Try.prog 127 #[.int .i64 lo, .int .i64 hi] w fun e w' => (∃ V c, e = .returned (.slice V N c) ∧ w'.ownsRow w.heap.size 3 1 (.slice V N c) N ((M.fromTo lo N).flatMap ics)) ∧ Ev w w' := by
 obtain ⟨i0, hi0, hz0, hz1, hz2⟩ := info_parts info3'
 go_enter Try.func127, Try.ntmps127
 go_wp2
 go_loopw [5, 6] (fun v i wr => ∃ k : Nat, ∃ V : Option Addr, ∃ c : Nat, ∃ y : Int, v = .slice V k c ∧ i = .int .i64 y ∧ y = lo + k ∧ k ≤ N ∧ Ev w wr ∧ wr.ownsRow w.heap.size 3 1 (.slice V k c) k ((M.fromTo lo k).flatMap ics)) (fun _ i _ => (hi + 1 - intOf i).toNat)
 case atStart => exact ⟨0, none, 0, lo, rfl, rfl, by omega, by omega, Ev.refl _, World.ownsRow_nil _ _ _ _⟩
 case round =>
  obtain ⟨k, V, c, y, rfl, rfl, hy, hk, hB, hown⟩ := hrel
  have hbs := hB.size
  by_cases hlt : k < N
  ·
   have hyh : y ≤ hi := by omega
   have HTK := hid (show (M.fromTo lo (k + 1)).flatMap ics = (M.fromTo lo k).flatMap ics ++ [.int .i64 y] by rw [M.fromTo, List.flatMap_append, hy]; rfl)
   have s1 : IntKind.i64.wrap (y + 1) = y + 1 := IntWalk.i64_in _ (by omega)
   have HY := hid hy
   clear hy
   go_wp2_with (at_builtin; refine wpList_append_own_at _ rfl (.tmp 13) (.tmp 15) 25 rfl w.heap.size 3 i0 _ 1 8 Try.underlying25 hi0 hz0 hz1 hz2 rfl (by decide) _ k ((M.fromTo lo k).flatMap ics) rfl (hown.alloc _) ⟨wr.heap.size, 0, none⟩ 1 1 [.int .i64 y] rfl rfl (news_in (alloc1 wr _).1) (by simp [Value.oneCell']) (by unfold maxLen; omega) (by omega) (by simp; omega) ?_; intro v' w3 hown' hgrow _ _; have hown3 : w3.ownsRow w.heap.size 3 1 v' (k + 1) ((M.fromTo lo (k + 1)).flatMap ics) := (by rw [HTK.out]; exact hown'); obtain ⟨V', c', rfl⟩ := own_form hown3; have HE3 := hid (Ev.grown (hB.alloc (.cells #[.int .i64 y] 3)) hgrow (fun q e => (hown.lt q e).1) : Ev w w3); have HO3 := hid hown3; clear hown' hown3 hgrow)
   exact ⟨⟨k + 1, V', c', y + 1, rfl, by go_num, by have := HY.out; omega, by omega, HE3.out, HO3.out⟩, by simp [intOf]; omega⟩
  ·
   obtain rfl : k = N := by omega
   have hyh : ¬ (y ≤ hi) := by omega
   clear hy
   go_wp2
   go_ret
   exact ⟨⟨V, c, rfl, hown⟩, hB⟩

theorem cells13 {W : World} {b : Nat} {t : TypeId} {v0 v1 v2 v3 v4 v5 v6 v7 v8 v9 v10 v11 v12 : Value} (h : W.heap[b]? = some (.cells #[v0, v1, v2, v3, v4, v5, v6, v7, v8, v9, v10, v11, v12] t (0, 0))) :
  W.cell? ⟨b, 0, none⟩ = some v0 ∧ W.cell? ⟨b, 1, none⟩ = some v1 ∧ W.cell? ⟨b, 2, none⟩ = some v2 ∧ W.cell? ⟨b, 3, none⟩ = some v3 ∧ W.cell? ⟨b, 4, none⟩ = some v4 ∧ W.cell? ⟨b, 5, none⟩ = some v5 ∧ W.cell? ⟨b, 6, none⟩ = some v6 ∧ W.cell? ⟨b, 7, none⟩ = some v7 ∧ W.cell? ⟨b, 8, none⟩ = some v8 ∧ W.cell? ⟨b, 9, none⟩ = some v9 ∧ W.cell? ⟨b, 10, none⟩ = some v10 ∧ W.cell? ⟨b, 11, none⟩ = some v11 ∧ W.cell? ⟨b, 12, none⟩ = some v12 :=
 ⟨cell_in h 0, cell_in h 1, cell_in h 2, cell_in h 3, cell_in h 4, cell_in h 5, cell_in h 6, cell_in h 7, cell_in h 8, cell_in h 9, cell_in h 10, cell_in h 11, cell_in h 12⟩
theorem map_ne {P : Program} {kt : TypeId} {w : World} {mb : Nat} {g : Value → Option Value} (h : MapIs P kt w mb g) {b : Nat} {cs : Array Value} {t : TypeId} {fz : Nat × Nat} (hb : w.heap[b]? = some (.cells cs t fz)) : b ≠ mb := by
 rintro rfl
 obtain ⟨es, ck, hh, _⟩ := h
 rw [hb] at hh
 cases hh
theorem map_ne_cell {P : Program} {kt : TypeId} {w : World} {mb : Nat} {g : Value → Option Value} (h : MapIs P kt w mb g) {b j : Nat} {v : Value} (hb : w.cell? ⟨b, j, none⟩ = some v) : b ≠ mb := by
 rintro rfl
 obtain ⟨es, ck, hh, _⟩ := h
 rw [cell_map hh] at hb
 cases hb
theorem Mo.ev_ {mb : Nat} {a b c : World} (h : Mo mb a b) (k : Ev b c) : Mo mb a c := h.trans (Mo.ev k)
theorem MapIs.set10 {P : Program} {kt : TypeId} {W : World} {mb b : Nat} {g : Value → Option Value} {v0 v1 v2 v3 v4 v5 v6 v7 v8 v9 : Value} (h : MapIs P kt W mb g) (hne : mb ≠ b) : MapIs P kt ((((((((((W.setCell ⟨b, 0, none⟩ v0).setCell ⟨b, 1, none⟩ v1).setCell ⟨b, 2, none⟩ v2).setCell ⟨b, 3, none⟩ v3).setCell ⟨b, 4, none⟩ v4).setCell ⟨b, 5, none⟩ v5).setCell ⟨b, 6, none⟩ v6).setCell ⟨b, 7, none⟩ v7).setCell ⟨b, 8, none⟩ v8).setCell ⟨b, 9, none⟩ v9) mb g :=
 h.same (by repeat rw [Below.heap_setCell _ _ _ _ (by simpa using hne)])
theorem Mo.set10 {a W : World} {mb b : Nat} {v0 v1 v2 v3 v4 v5 v6 v7 v8 v9 : Value} (h : Mo mb a W) (hb : a.heap.size ≤ b) : Mo mb a ((((((((((W.setCell ⟨b, 0, none⟩ v0).setCell ⟨b, 1, none⟩ v1).setCell ⟨b, 2, none⟩ v2).setCell ⟨b, 3, none⟩ v3).setCell ⟨b, 4, none⟩ v4).setCell ⟨b, 5, none⟩ v5).setCell ⟨b, 6, none⟩ v6).setCell ⟨b, 7, none⟩ v7).setCell ⟨b, 8, none⟩ v8).setCell ⟨b, 9, none⟩ v9) := by
 refine Mo.setCell (Mo.setCell (Mo.setCell (Mo.setCell (Mo.setCell (Mo.setCell (Mo.setCell (Mo.setCell (Mo.setCell (Mo.setCell h ?_ _) ?_ _) ?_ _) ?_ _) ?_ _) ?_ _) ?_ _) ?_ _) ?_ _) ?_ _ <;> exact hb
/-- What a state cools to. -/
def M.cool (f : M.Cf) (a : Int) (b : Bool) : Int := if b then a - a * f.cool / 100 else a
/-- What is remembered of states is true. -/
def Loads (f : M.Cf) (g : Value → Option Value) : Prop := ∀ k v, g k = some v → ∃ a b, k = .agg #[.int .i64 a, .bool b] ∧ v = .int .i64 (M.cool f a b)
theorem Loads.at_ {f : M.Cf} {g : Value → Option Value} (h : Loads f g) {a : Int} {b : Bool} {v : Value} (hg : g (.agg #[.int .i64 a, .bool b]) = some v) : v = .int .i64 (M.cool f a b) := by
 obtain ⟨a', b', hk, hv⟩ := h _ _ hg
 simp at hk
 obtain ⟨rfl, rfl⟩ := hk
 exact hv
open Classical in
theorem Loads.put {f : M.Cf} {g : Value → Option Value} (h : Loads f g) (a : Int) (b : Bool) :
  Loads f (fun k => if k = .agg #[.int .i64 a, .bool b] then some (.int .i64 (M.cool f a b)) else g k) := by
 intro k v hk
 simp only [] at hk
 split at hk
 ·
  rename_i h1; exact ⟨a, b, h1, by simpa using hk.symm⟩
 ·
  exact h k v hk

set_option maxRecDepth 100000 in
set_option maxHeartbeats 1000000 in
theorem start_c (f : M.Cf) (Aw At Ar : Option Addr) (nw cw nt ct nr cr : Nat) (w : World) :
  Calls Try.prog 67 #[.agg #[.int .i64 f.last, .int .i64 f.size, .int .i64 f.cool, .int .i64 f.die, .int .i64 f.burn, .int .i64 f.st.lo, .int .i64 f.st.hi, .slice Aw nw cw, .slice At nt ct, .slice Ar nr cr]] w fun e w' => (∃ p mb, e = .returned (.pointer (some ⟨p, 0, none⟩)) ∧ w.heap.size ≤ p ∧ w.heap.size ≤ mb ∧ w'.heap[p]? = some (.cells #[.int .i64 f.last, .int .i64 f.size, .int .i64 f.cool, .int .i64 f.die, .int .i64 f.burn, .int .i64 f.st.lo, .int .i64 f.st.hi, .slice Aw nw cw, .slice At nt ct, .slice Ar nr cr, .slice none 0 0, .slice none 0 0, .map (some mb)] 136 (0, 0)) ∧ MapIs Try.prog 139 w' mb (fun _ => none)) ∧ Ev w w' := by
 have hmm := @run_makeMap Try.prog
 go_enter Try.func67, Try.ntmps67
 go_wp2
 go_ret
 refine ⟨⟨_, _, rfl, ?_, ?_, (alloc3 w _ _ _).2.2.1, ?_⟩, Ev.alloc (Ev.alloc (Ev.alloc (Ev.refl _) _) _) _⟩
 ·
  first | (simp; done) | (simp; omega) | omega
 ·
  exact Nat.le_succ _
 ·
  have h1 := MapIs.new Try.prog 139 (w.alloc (.cells #[.int .i64 f.last, .int .i64 f.size, .int .i64 f.cool, .int .i64 f.die, .int .i64 f.burn, .int .i64 f.st.lo, .int .i64 f.st.hi, .slice Aw nw cw, .slice At nt ct, .slice Ar nr cr] 40))
  have h2 := h1.keep (Ev.alloc (Ev.refl _) (.cells #[.int .i64 f.last, .int .i64 f.size, .int .i64 f.cool, .int .i64 f.die, .int .i64 f.burn, .int .i64 f.st.lo, .int .i64 f.st.hi, .slice Aw nw cw, .slice At nt ct, .slice Ar nr cr, .slice none 0 0, .slice none 0 0, .map (some (w.heap.size + 1))] 136)) (by simp)
  simpa using h2

set_option maxRecDepth 100000 in
set_option maxHeartbeats 8000000 in
theorem cool_c (f : M.Cf) (Aw At Ar : Option Addr) (nw cw nt ct nr cr : Nat) (Ts Ss : Option Addr) (ns cs ms ds p mb : Nat) (a : Int) (b : Bool) (a0 : 0 ≤ a) (a1 : a ≤ 1000) (ht : 0 ≤ f.cool ∧ f.cool ≤ 100) (g : Value → Option Value) (hg : Loads f g) (w : World) (hw : w.heap[p]? = some (.cells #[.int .i64 f.last, .int .i64 f.size, .int .i64 f.cool, .int .i64 f.die, .int .i64 f.burn, .int .i64 f.st.lo, .int .i64 f.st.hi, .slice Aw nw cw, .slice At nt ct, .slice Ar nr cr, .slice Ts ns cs, .slice Ss ms ds, .map (some mb)] 136 (0, 0))) (hm : MapIs Try.prog 139 w mb g) :
  Calls Try.prog 94 #[.pointer (some ⟨p, 0, none⟩), .agg #[.int .i64 a, .bool b]] w fun e w' => e = .returned (.int .i64 (M.cool f a b)) ∧ (∃ g', Loads f g' ∧ MapIs Try.prog 139 w' mb g') ∧ Mo mb w w' := by
 obtain ⟨l, hkey⟩ := key151 (a := a) (b := b) (Wf.of (by omega))
 have hlk : ∀ W, MapIs Try.prog 139 W mb g → (Instr.lookup 132 (.map (some mb)) (.agg #[.int .i64 a, .bool b]) true).run Try.prog W = .ok (.tuple #[(g (.agg #[.int .i64 a, .bool b])).getD (.int .i64 0), .bool (g (.agg #[.int .i64 a, .bool b])).isSome]) W := fun W h => MapIs.lookup h law151 Try.underlying132 (fun w => Try.zeroValue3 w) hkey
 have hpl := heap_lt hw
 have hml := hm.lt
 have HW := hid hw
 have HM := hid hm
 have HG := hid hg
 have hpm : p ≠ mb := by
  rintro rfl
  obtain ⟨es, ck, hh, _⟩ := hm
  rw [hw] at hh
  cases hh
 cases hgx : g (.agg #[.int .i64 a, .bool b]) with
 | some v =>
  obtain rfl := hg.at_ hgx
  rw [hgx] at hlk
  simp only [Option.getD_some, Option.isSome_some] at hlk
  have HLK := hid hlk
  clear hgx hg hw hm hlk
  go_enter Try.func94, Try.ntmps94
  go_upto_region 1 with fail
  generalize hW0 : World.alloc _ _ = W0
  have hE0 : Ev w W0 := by rw [← hW0]; exact Ev.alloc (Ev.refl _) _
  have hal := (alloc1 w (.cells #[.int .i64 a, .bool b] 139)).1
  rw [hW0] at hal
  have HP := hid (hE0.heap HW.out)
  have HMM := hid (HM.out.keep hE0 hml)
  obtain ⟨x0, x1⟩ := cells2 hal
  have z12 : W0.cell? ⟨p, 12, none⟩ = some (.map (some mb)) := (cell_in HP.out 12).trans rfl
  have z7 : W0.cell? ⟨p, 2, none⟩ = some (.int .i64 f.cool) := (cell_in HP.out 2).trans rfl
  have hpw : p < W0.heap.size := heap_lt HP.out
  have hww : w.heap.size < W0.heap.size := heap_lt hal
  clear hW0 hal
  refine wp_region_held_drew (S := fun w' => (∀ o, w'.cell? ⟨p, o, none⟩ = W0.cell? ⟨p, o, none⟩) ∧ (∀ o, w'.cell? ⟨w.heap.size, o, none⟩ = W0.cell? ⟨w.heap.size, o, none⟩) ∧ MapIs Try.prog 139 w' mb g) (by kernel_rfl) ⟨fun o => rfl, fun o => rfl, HMM.out.same rfl⟩ (fun hHeld => ?_)
  refine wpAnyH_take (i := 0) (v := ?_) rfl (by kernel_rfl) (by kernel_rfl) (by kernel_rfl) (fun _ _ _ h => h) (Or.inl ⟨by rfl, ?hy⟩) (by assumption) ?_
  case hy => (intro w hSw; (try dsimp only at hSw); go_simp; with_reducible rfl)
  (try simp only [Act.put, List.setIfInBounds_toArray, List.set_cons_zero, List.set_cons_succ])
  refine wpAnyH_take (i := 1) (v := ?_) rfl (by kernel_rfl) (by kernel_rfl) (by kernel_rfl) (fun _ _ _ h => h) (Or.inl ⟨by rfl, ?hy⟩) (by assumption) ?_
  case hy => (intro w hSw; (try dsimp only at hSw); go_simp; with_reducible rfl)
  (try simp only [Act.put, List.setIfInBounds_toArray, List.set_cons_zero, List.set_cons_succ])
  refine wpAnyH_take (i := 2) (v := ?_) rfl (by kernel_rfl) (by kernel_rfl) (by kernel_rfl) (fun _ _ _ h => h) (Or.inl ⟨by rfl, ?hy⟩) (by assumption) ?_
  case hy => (intro w hSw; (try dsimp only at hSw); go_simp; with_reducible rfl)
  (try simp only [Act.put, List.setIfInBounds_toArray, List.set_cons_zero, List.set_cons_succ])
  refine wpAnyH_take (i := 3) (v := ?_) rfl (by kernel_rfl) (by kernel_rfl) (by kernel_rfl) (fun _ _ _ h => h) (Or.inl ⟨by rfl, ?hy⟩) (by assumption) ?_
  case hy => (intro w hSw; (try dsimp only at hSw); go_simp; with_reducible rfl)
  (try simp only [Act.put, List.setIfInBounds_toArray, List.set_cons_zero, List.set_cons_succ])
  refine wpAnyH_take (i := 4) (v := ?_) rfl (by kernel_rfl) (by kernel_rfl) (by kernel_rfl) (fun _ _ _ h => h) (Or.inl ⟨by rfl, ?hy⟩) (by assumption) ?_
  case hy => (intro w hSw; (try dsimp only at hSw); go_simp; with_reducible rfl)
  (try simp only [Act.put, List.setIfInBounds_toArray, List.set_cons_zero, List.set_cons_succ])
  refine wpAnyH_take (i := 5) (v := ?_) rfl (by kernel_rfl) (by kernel_rfl) (by kernel_rfl) (fun _ _ _ h => h) (Or.inl ⟨by rfl, ?hy⟩) (by assumption) ?_
  case hy => (intro w hSw; (try dsimp only at hSw); have hlk5 := HLK.out _ hSw.2.2; go_simp; with_reducible rfl)
  (try simp only [Act.put, List.setIfInBounds_toArray, List.set_cons_zero, List.set_cons_succ])
  refine wpAnyH_take (i := 6) (v := ?_) rfl (by kernel_rfl) (by kernel_rfl) (by kernel_rfl) (fun _ _ _ h => h) (Or.inl ⟨by rfl, ?hy⟩) (by assumption) ?_
  case hy => (intro w hSw; (try dsimp only at hSw); go_simp; with_reducible rfl)
  (try simp only [Act.put, List.setIfInBounds_toArray, List.set_cons_zero, List.set_cons_succ])
  refine wpAnyH_take (i := 7) (v := ?_) rfl (by kernel_rfl) (by kernel_rfl) (by kernel_rfl) (fun _ _ _ h => h) (Or.inl ⟨by rfl, ?hy⟩) (by assumption) ?_
  case hy => (intro w hSw; (try dsimp only at hSw); go_simp; with_reducible rfl)
  (try simp only [Act.put, List.setIfInBounds_toArray, List.set_cons_zero, List.set_cons_succ])
  refine wpAnyH_take (i := 8) (v := ?_) rfl (by kernel_rfl) (by kernel_rfl) (by kernel_rfl) (fun _ _ _ h => h) (Or.inl ⟨by rfl, ?hy⟩) (by assumption) ?_
  case hy => (intro w hSw; (try dsimp only at hSw); go_simp; with_reducible rfl)
  (try simp only [Act.put, List.setIfInBounds_toArray, List.set_cons_zero, List.set_cons_succ])
  refine wpAnyH_take (i := 9) (v := ?_) rfl (by kernel_rfl) (by kernel_rfl) (by kernel_rfl) (fun _ _ _ h => h) (Or.inl ⟨by rfl, ?hy⟩) (by assumption) ?_
  case hy => (intro w hSw; (try dsimp only at hSw); go_simp; with_reducible rfl)
  (try simp only [Act.put, List.setIfInBounds_toArray, List.set_cons_zero, List.set_cons_succ])
  refine wpAnyH_take (i := 10) (v := ?_) rfl (by kernel_rfl) (by kernel_rfl) (by kernel_rfl) (fun _ _ _ h => h) (Or.inl ⟨by rfl, ?hy⟩) (by assumption) ?_
  case hy => (intro w hSw; (try dsimp only at hSw); go_simp; with_reducible rfl)
  (try simp only [Act.put, List.setIfInBounds_toArray, List.set_cons_zero, List.set_cons_succ])
  refine wpAnyH_done (by kernel_rfl) ?_ _
  go_wp2_with (fail)
  go_ret
  exact ⟨rfl, ⟨g, HG.out, HMM.out.same rfl⟩, (Mo.ev hE0).drew⟩
 | none =>
  rw [hgx] at hlk
  simp only [Option.getD_none, Option.isSome_none] at hlk
  have HLK := hid hlk
  clear hgx hg hw hm hlk
  obtain ⟨q, hq⟩ : ∃ q : Int, a * f.cool = q := ⟨_, rfl⟩
  have hq0 : 0 ≤ q := by rw [← hq]; exact Int.mul_nonneg (by omega) (by omega)
  have hq1 : q ≤ 1000 * 100 := by rw [← hq]; exact Int.mul_le_mul (by omega) (by omega) (by omega) (by omega)
  have t1 : q.tdiv 100 = q / 100 := Int.tdiv_eq_ediv_of_nonneg hq0
  have s1 : IntKind.i64.wrap q = q := IntWalk.i64_in _ (by omega)
  obtain ⟨d, hd⟩ : ∃ d : Int, q / 100 = d := ⟨_, rfl⟩
  have s2 : IntKind.i64.wrap d = d := IntWalk.i64_in _ (by omega)
  have s3 : IntKind.i64.wrap (a - d) = a - d := IntWalk.i64_in _ (by omega)
  have HLV := hid (show M.cool f a true = a - d by unfold M.cool; rw [if_pos rfl, hq, hd])
  have HLF := hid (show M.cool f a false = a from rfl)
  cases b
  ·
   go_enter Try.func94, Try.ntmps94
   go_upto_region 1 with fail
   generalize hW0 : World.alloc _ _ = W0
   have hE0 : Ev w W0 := by rw [← hW0]; exact Ev.alloc (Ev.refl _) _
   have hal := (alloc1 w (.cells #[.int .i64 a, .bool false] 139)).1
   rw [hW0] at hal
   have HP := hid (hE0.heap HW.out)
   have HMM := hid (HM.out.keep hE0 hml)
   obtain ⟨x0, x1⟩ := cells2 hal
   have z12 : W0.cell? ⟨p, 12, none⟩ = some (.map (some mb)) := (cell_in HP.out 12).trans rfl
   have z7 : W0.cell? ⟨p, 2, none⟩ = some (.int .i64 f.cool) := (cell_in HP.out 2).trans rfl
   have hpw : p < W0.heap.size := heap_lt HP.out
   have hww : w.heap.size < W0.heap.size := heap_lt hal
   clear hW0 hal
   refine wp_region_held_drew (S := fun w' => (∀ o, w'.cell? ⟨p, o, none⟩ = W0.cell? ⟨p, o, none⟩) ∧ (∀ o, w'.cell? ⟨w.heap.size, o, none⟩ = W0.cell? ⟨w.heap.size, o, none⟩) ∧ MapIs Try.prog 139 w' mb g) (by kernel_rfl) ⟨fun o => rfl, fun o => rfl, HMM.out.same rfl⟩ (fun hHeld => ?_)
   refine wpAnyH_take (i := 0) (v := ?_) rfl (by kernel_rfl) (by kernel_rfl) (by kernel_rfl) (fun _ _ _ h => h) (Or.inl ⟨by rfl, ?hy⟩) (by assumption) ?_
   case hy => (intro w hSw; (try dsimp only at hSw); go_simp; with_reducible rfl)
   (try simp only [Act.put, List.setIfInBounds_toArray, List.set_cons_zero, List.set_cons_succ])
   refine wpAnyH_take (i := 1) (v := ?_) rfl (by kernel_rfl) (by kernel_rfl) (by kernel_rfl) (fun _ _ _ h => h) (Or.inl ⟨by rfl, ?hy⟩) (by assumption) ?_
   case hy => (intro w hSw; (try dsimp only at hSw); go_simp; with_reducible rfl)
   (try simp only [Act.put, List.setIfInBounds_toArray, List.set_cons_zero, List.set_cons_succ])
   refine wpAnyH_take (i := 2) (v := ?_) rfl (by kernel_rfl) (by kernel_rfl) (by kernel_rfl) (fun _ _ _ h => h) (Or.inl ⟨by rfl, ?hy⟩) (by assumption) ?_
   case hy => (intro w hSw; (try dsimp only at hSw); go_simp; with_reducible rfl)
   (try simp only [Act.put, List.setIfInBounds_toArray, List.set_cons_zero, List.set_cons_succ])
   refine wpAnyH_take (i := 3) (v := ?_) rfl (by kernel_rfl) (by kernel_rfl) (by kernel_rfl) (fun _ _ _ h => h) (Or.inl ⟨by rfl, ?hy⟩) (by assumption) ?_
   case hy => (intro w hSw; (try dsimp only at hSw); go_simp; with_reducible rfl)
   (try simp only [Act.put, List.setIfInBounds_toArray, List.set_cons_zero, List.set_cons_succ])
   refine wpAnyH_take (i := 4) (v := ?_) rfl (by kernel_rfl) (by kernel_rfl) (by kernel_rfl) (fun _ _ _ h => h) (Or.inl ⟨by rfl, ?hy⟩) (by assumption) ?_
   case hy => (intro w hSw; (try dsimp only at hSw); go_simp; with_reducible rfl)
   (try simp only [Act.put, List.setIfInBounds_toArray, List.set_cons_zero, List.set_cons_succ])
   refine wpAnyH_take (i := 5) (v := ?_) rfl (by kernel_rfl) (by kernel_rfl) (by kernel_rfl) (fun _ _ _ h => h) (Or.inl ⟨by rfl, ?hy⟩) (by assumption) ?_
   case hy => (intro w hSw; (try dsimp only at hSw); have hlk5 := HLK.out _ hSw.2.2; go_simp; with_reducible rfl)
   (try simp only [Act.put, List.setIfInBounds_toArray, List.set_cons_zero, List.set_cons_succ])
   refine wpAnyH_take (i := 6) (v := ?_) rfl (by kernel_rfl) (by kernel_rfl) (by kernel_rfl) (fun _ _ _ h => h) (Or.inl ⟨by rfl, ?hy⟩) (by assumption) ?_
   case hy => (intro w hSw; (try dsimp only at hSw); go_simp; with_reducible rfl)
   (try simp only [Act.put, List.setIfInBounds_toArray, List.set_cons_zero, List.set_cons_succ])
   refine wpAnyH_take (i := 7) (v := ?_) rfl (by kernel_rfl) (by kernel_rfl) (by kernel_rfl) (fun _ _ _ h => h) (Or.inl ⟨by rfl, ?hy⟩) (by assumption) ?_
   case hy => (intro w hSw; (try dsimp only at hSw); go_simp; with_reducible rfl)
   (try simp only [Act.put, List.setIfInBounds_toArray, List.set_cons_zero, List.set_cons_succ])
   refine wpAnyH_take (i := 8) (v := ?_) rfl (by kernel_rfl) (by kernel_rfl) (by kernel_rfl) (fun _ _ _ h => h) (Or.inl ⟨by rfl, ?hy⟩) (by assumption) ?_
   case hy => (intro w hSw; (try dsimp only at hSw); go_simp; with_reducible rfl)
   (try simp only [Act.put, List.setIfInBounds_toArray, List.set_cons_zero, List.set_cons_succ])
   refine wpAnyH_take (i := 9) (v := ?_) rfl (by kernel_rfl) (by kernel_rfl) (by kernel_rfl) (fun _ _ _ h => h) (Or.inl ⟨by rfl, ?hy⟩) (by assumption) ?_
   case hy => (intro w hSw; (try dsimp only at hSw); go_simp; with_reducible rfl)
   (try simp only [Act.put, List.setIfInBounds_toArray, List.set_cons_zero, List.set_cons_succ])
   refine wpAnyH_take (i := 10) (v := ?_) rfl (by kernel_rfl) (by kernel_rfl) (by kernel_rfl) (fun _ _ _ h => h) (Or.inl ⟨by rfl, ?hy⟩) (by assumption) ?_
   case hy => (intro w hSw; (try dsimp only at hSw); go_simp; with_reducible rfl)
   (try simp only [Act.put, List.setIfInBounds_toArray, List.set_cons_zero, List.set_cons_succ])
   refine wpAnyH_done (by kernel_rfl) ?_ _
   go_upto_region 6 with fail
   generalize hW6 : World.drew _ = W6
   have hE6 : Ev W0 W6 := by rw [← hW6]; exact Ev.drew (Ev.refl _)
   have hE6w := hE0.trans hE6
   have y0 : W6.cell? ⟨w.heap.size, 0, none⟩ = some (.int .i64 a) := (hE6.cells.1 _ _ hww).trans x0
   have y1 : W6.cell? ⟨w.heap.size, 1, none⟩ = some (.bool false) := (hE6.cells.1 _ _ hww).trans x1
   have y12 : W6.cell? ⟨p, 12, none⟩ = some (.map (some mb)) := (hE6.cells.1 _ _ hpw).trans z12
   have hM6 : MapIs Try.prog 139 W6.drew mb g := (HMM.out.keep hE6 (HMM.out.lt)).same rfl
   obtain ⟨w7, hrun, hM7, hgr⟩ := hM6.update law151 Try.underlying132 hkey (v := .int .i64 (a))
   have HM7 := hid hM7
   have HGR := hid hgr
   have hpw6 : p < W6.heap.size := by have := hE6.size; omega
   have hww6 : w.heap.size < W6.heap.size := by have := hE6.size; omega
   have HS7 : Hid ((∀ o, w7.cell? ⟨p, o, none⟩ = W6.cell? ⟨p, o, none⟩) ∧ (∀ o, w7.cell? ⟨w.heap.size, o, none⟩ = W6.cell? ⟨w.heap.size, o, none⟩)) := hid ⟨fun o => (Mo.cells (show Mo mb W6.drew w7 from hgr)).1 p o hpw6 hpm, fun o => (Mo.cells (show Mo mb W6.drew w7 from hgr)).1 w.heap.size o hww6 (by omega)⟩
   clear hM6 hM7 hgr hW6 x0 x1 z12 z7
   refine wp_region_held_drew (S := fun w' => (∀ o, w'.cell? ⟨p, o, none⟩ = W6.cell? ⟨p, o, none⟩) ∧ (∀ o, w'.cell? ⟨w.heap.size, o, none⟩ = W6.cell? ⟨w.heap.size, o, none⟩)) (by kernel_rfl) ⟨fun o => rfl, fun o => rfl⟩ (fun hHeld => ?_)
   refine wpAnyH_take (i := 0) (v := ?_) rfl (by kernel_rfl) (by kernel_rfl) (by kernel_rfl) (fun _ _ _ h => h) (Or.inl ⟨by rfl, ?hy⟩) (by assumption) ?_
   case hy => (intro w hSw; (try dsimp only at hSw); go_simp; with_reducible rfl)
   (try simp only [Act.put, List.setIfInBounds_toArray, List.set_cons_zero, List.set_cons_succ])
   refine wpAnyH_take (i := 1) (v := ?_) rfl (by kernel_rfl) (by kernel_rfl) (by kernel_rfl) (fun _ _ _ h => h) (Or.inl ⟨by rfl, ?hy⟩) (by assumption) ?_
   case hy => (intro w hSw; (try dsimp only at hSw); go_simp; with_reducible rfl)
   (try simp only [Act.put, List.setIfInBounds_toArray, List.set_cons_zero, List.set_cons_succ])
   refine wpAnyH_take (i := 2) (v := ?_) rfl (by kernel_rfl) (by kernel_rfl) (by kernel_rfl) (fun _ _ _ h => h) (Or.inl ⟨by rfl, ?hy⟩) (by assumption) ?_
   case hy => (intro w hSw; (try dsimp only at hSw); go_simp; with_reducible rfl)
   (try simp only [Act.put, List.setIfInBounds_toArray, List.set_cons_zero, List.set_cons_succ])
   refine wpAnyH_take (i := 3) (v := ?_) rfl (by kernel_rfl) (by kernel_rfl) (by kernel_rfl) (fun _ _ _ h => h) (Or.inl ⟨by rfl, ?hy⟩) (by assumption) ?_
   case hy => (intro w hSw; (try dsimp only at hSw); go_simp; with_reducible rfl)
   (try simp only [Act.put, List.setIfInBounds_toArray, List.set_cons_zero, List.set_cons_succ])
   refine wpAnyH_take (i := 4) (v := ?_) rfl (by kernel_rfl) (by kernel_rfl) (by kernel_rfl) (fun _ _ _ h => h) (Or.inl ⟨by rfl, ?hy⟩) (by assumption) ?_
   case hy => (intro w hSw; (try dsimp only at hSw); go_simp; with_reducible rfl)
   (try simp only [Act.put, List.setIfInBounds_toArray, List.set_cons_zero, List.set_cons_succ])
   refine wpAnyH_take (i := 5) (v := ?_) rfl (by kernel_rfl) (by kernel_rfl) (by kernel_rfl) (fun _ _ _ h => h) (Or.inl ⟨by rfl, ?hy⟩) (by assumption) ?_
   case hy => (intro w hSw; (try dsimp only at hSw); go_simp; with_reducible rfl)
   (try simp only [Act.put, List.setIfInBounds_toArray, List.set_cons_zero, List.set_cons_succ])
   refine wpAnyH_ready (rs := [6]) (by kernel_rfl) (by simp) ?_
   refine AllReadyH.cons rfl (fun K hK => ?_) AllReadyH.nil
   go_simp
   refine hK.out _ _ (HS7.out) (fun hHeld => ?_)
   clear hK K
   (try simp only [Act.put, List.setIfInBounds_toArray, List.set_cons_zero, List.set_cons_succ])
   refine wpAnyH_done (by kernel_rfl) ?_ _
   go_wp2_with fail
   go_ret
   refine ⟨by rw [HLF.out]; rfl, ⟨_, ?_, HM7.out⟩, (Mo.ev (Ev.drew hE6w)).trans (show Mo mb W6.drew w7 from HGR.out)⟩
   rw [← HLF.out]
   exact HG.out.put a false
  ·
   go_enter Try.func94, Try.ntmps94
   go_upto_region 1 with fail
   generalize hW0 : World.alloc _ _ = W0
   have hE0 : Ev w W0 := by rw [← hW0]; exact Ev.alloc (Ev.refl _) _
   have hal := (alloc1 w (.cells #[.int .i64 a, .bool true] 139)).1
   rw [hW0] at hal
   have HP := hid (hE0.heap HW.out)
   have HMM := hid (HM.out.keep hE0 hml)
   obtain ⟨x0, x1⟩ := cells2 hal
   have z12 : W0.cell? ⟨p, 12, none⟩ = some (.map (some mb)) := (cell_in HP.out 12).trans rfl
   have z7 : W0.cell? ⟨p, 2, none⟩ = some (.int .i64 f.cool) := (cell_in HP.out 2).trans rfl
   have hpw : p < W0.heap.size := heap_lt HP.out
   have hww : w.heap.size < W0.heap.size := heap_lt hal
   clear hW0 hal
   refine wp_region_held_drew (S := fun w' => (∀ o, w'.cell? ⟨p, o, none⟩ = W0.cell? ⟨p, o, none⟩) ∧ (∀ o, w'.cell? ⟨w.heap.size, o, none⟩ = W0.cell? ⟨w.heap.size, o, none⟩) ∧ MapIs Try.prog 139 w' mb g) (by kernel_rfl) ⟨fun o => rfl, fun o => rfl, HMM.out.same rfl⟩ (fun hHeld => ?_)
   refine wpAnyH_take (i := 0) (v := ?_) rfl (by kernel_rfl) (by kernel_rfl) (by kernel_rfl) (fun _ _ _ h => h) (Or.inl ⟨by rfl, ?hy⟩) (by assumption) ?_
   case hy => (intro w hSw; (try dsimp only at hSw); go_simp; with_reducible rfl)
   (try simp only [Act.put, List.setIfInBounds_toArray, List.set_cons_zero, List.set_cons_succ])
   refine wpAnyH_take (i := 1) (v := ?_) rfl (by kernel_rfl) (by kernel_rfl) (by kernel_rfl) (fun _ _ _ h => h) (Or.inl ⟨by rfl, ?hy⟩) (by assumption) ?_
   case hy => (intro w hSw; (try dsimp only at hSw); go_simp; with_reducible rfl)
   (try simp only [Act.put, List.setIfInBounds_toArray, List.set_cons_zero, List.set_cons_succ])
   refine wpAnyH_take (i := 2) (v := ?_) rfl (by kernel_rfl) (by kernel_rfl) (by kernel_rfl) (fun _ _ _ h => h) (Or.inl ⟨by rfl, ?hy⟩) (by assumption) ?_
   case hy => (intro w hSw; (try dsimp only at hSw); go_simp; with_reducible rfl)
   (try simp only [Act.put, List.setIfInBounds_toArray, List.set_cons_zero, List.set_cons_succ])
   refine wpAnyH_take (i := 3) (v := ?_) rfl (by kernel_rfl) (by kernel_rfl) (by kernel_rfl) (fun _ _ _ h => h) (Or.inl ⟨by rfl, ?hy⟩) (by assumption) ?_
   case hy => (intro w hSw; (try dsimp only at hSw); go_simp; with_reducible rfl)
   (try simp only [Act.put, List.setIfInBounds_toArray, List.set_cons_zero, List.set_cons_succ])
   refine wpAnyH_take (i := 4) (v := ?_) rfl (by kernel_rfl) (by kernel_rfl) (by kernel_rfl) (fun _ _ _ h => h) (Or.inl ⟨by rfl, ?hy⟩) (by assumption) ?_
   case hy => (intro w hSw; (try dsimp only at hSw); go_simp; with_reducible rfl)
   (try simp only [Act.put, List.setIfInBounds_toArray, List.set_cons_zero, List.set_cons_succ])
   refine wpAnyH_take (i := 5) (v := ?_) rfl (by kernel_rfl) (by kernel_rfl) (by kernel_rfl) (fun _ _ _ h => h) (Or.inl ⟨by rfl, ?hy⟩) (by assumption) ?_
   case hy => (intro w hSw; (try dsimp only at hSw); have hlk5 := HLK.out _ hSw.2.2; go_simp; with_reducible rfl)
   (try simp only [Act.put, List.setIfInBounds_toArray, List.set_cons_zero, List.set_cons_succ])
   refine wpAnyH_take (i := 6) (v := ?_) rfl (by kernel_rfl) (by kernel_rfl) (by kernel_rfl) (fun _ _ _ h => h) (Or.inl ⟨by rfl, ?hy⟩) (by assumption) ?_
   case hy => (intro w hSw; (try dsimp only at hSw); go_simp; with_reducible rfl)
   (try simp only [Act.put, List.setIfInBounds_toArray, List.set_cons_zero, List.set_cons_succ])
   refine wpAnyH_take (i := 7) (v := ?_) rfl (by kernel_rfl) (by kernel_rfl) (by kernel_rfl) (fun _ _ _ h => h) (Or.inl ⟨by rfl, ?hy⟩) (by assumption) ?_
   case hy => (intro w hSw; (try dsimp only at hSw); go_simp; with_reducible rfl)
   (try simp only [Act.put, List.setIfInBounds_toArray, List.set_cons_zero, List.set_cons_succ])
   refine wpAnyH_take (i := 8) (v := ?_) rfl (by kernel_rfl) (by kernel_rfl) (by kernel_rfl) (fun _ _ _ h => h) (Or.inl ⟨by rfl, ?hy⟩) (by assumption) ?_
   case hy => (intro w hSw; (try dsimp only at hSw); go_simp; with_reducible rfl)
   (try simp only [Act.put, List.setIfInBounds_toArray, List.set_cons_zero, List.set_cons_succ])
   refine wpAnyH_take (i := 9) (v := ?_) rfl (by kernel_rfl) (by kernel_rfl) (by kernel_rfl) (fun _ _ _ h => h) (Or.inl ⟨by rfl, ?hy⟩) (by assumption) ?_
   case hy => (intro w hSw; (try dsimp only at hSw); go_simp; with_reducible rfl)
   (try simp only [Act.put, List.setIfInBounds_toArray, List.set_cons_zero, List.set_cons_succ])
   refine wpAnyH_take (i := 10) (v := ?_) rfl (by kernel_rfl) (by kernel_rfl) (by kernel_rfl) (fun _ _ _ h => h) (Or.inl ⟨by rfl, ?hy⟩) (by assumption) ?_
   case hy => (intro w hSw; (try dsimp only at hSw); go_simp; with_reducible rfl)
   (try simp only [Act.put, List.setIfInBounds_toArray, List.set_cons_zero, List.set_cons_succ])
   refine wpAnyH_done (by kernel_rfl) ?_ _
   go_upto_region 5 with fail
   refine wp_region_held_drew (S := fun w' => (∀ o, w'.cell? ⟨p, o, none⟩ = W0.cell? ⟨p, o, none⟩) ∧ (∀ o, w'.cell? ⟨w.heap.size, o, none⟩ = W0.cell? ⟨w.heap.size, o, none⟩)) (by kernel_rfl) ⟨fun o => rfl, fun o => rfl⟩ (fun hHeld => ?_)
   refine wpAnyH_take (i := 0) (v := ?_) rfl (by kernel_rfl) (by kernel_rfl) (by kernel_rfl) (fun _ _ _ h => h) (Or.inl ⟨by rfl, ?hy⟩) (by assumption) ?_
   case hy => (intro w hSw; (try dsimp only at hSw); go_simp; with_reducible rfl)
   (try simp only [Act.put, List.setIfInBounds_toArray, List.set_cons_zero, List.set_cons_succ])
   refine wpAnyH_take (i := 1) (v := ?_) rfl (by kernel_rfl) (by kernel_rfl) (by kernel_rfl) (fun _ _ _ h => h) (Or.inl ⟨by rfl, ?hy⟩) (by assumption) ?_
   case hy => (intro w hSw; (try dsimp only at hSw); go_simp; with_reducible rfl)
   (try simp only [Act.put, List.setIfInBounds_toArray, List.set_cons_zero, List.set_cons_succ])
   refine wpAnyH_take (i := 2) (v := ?_) rfl (by kernel_rfl) (by kernel_rfl) (by kernel_rfl) (fun _ _ _ h => h) (Or.inl ⟨by rfl, ?hy⟩) (by assumption) ?_
   case hy => (intro w hSw; (try dsimp only at hSw); go_simp; with_reducible rfl)
   (try simp only [Act.put, List.setIfInBounds_toArray, List.set_cons_zero, List.set_cons_succ])
   refine wpAnyH_take (i := 3) (v := ?_) rfl (by kernel_rfl) (by kernel_rfl) (by kernel_rfl) (fun _ _ _ h => h) (Or.inl ⟨by rfl, ?hy⟩) (by assumption) ?_
   case hy => (intro w hSw; (try dsimp only at hSw); go_simp; with_reducible rfl)
   (try simp only [Act.put, List.setIfInBounds_toArray, List.set_cons_zero, List.set_cons_succ])
   refine wpAnyH_take (i := 4) (v := ?_) rfl (by kernel_rfl) (by kernel_rfl) (by kernel_rfl) (fun _ _ _ h => h) (Or.inl ⟨by rfl, ?hy⟩) (by assumption) ?_
   case hy => (intro w hSw; (try dsimp only at hSw); go_simp; with_reducible rfl)
   (try simp only [Act.put, List.setIfInBounds_toArray, List.set_cons_zero, List.set_cons_succ])
   refine wpAnyH_take (i := 5) (v := ?_) rfl (by kernel_rfl) (by kernel_rfl) (by kernel_rfl) (fun _ _ _ h => h) (Or.inl ⟨by rfl, ?hy⟩) (by assumption) ?_
   case hy => (intro w hSw; (try dsimp only at hSw); go_simp; with_reducible rfl)
   (try simp only [Act.put, List.setIfInBounds_toArray, List.set_cons_zero, List.set_cons_succ])
   refine wpAnyH_take (i := 6) (v := ?_) rfl (by kernel_rfl) (by kernel_rfl) (by kernel_rfl) (fun _ _ _ h => h) (Or.inl ⟨by rfl, ?hy⟩) (by assumption) ?_
   case hy => (intro w hSw; (try dsimp only at hSw); go_simp; with_reducible rfl)
   (try simp only [Act.put, List.setIfInBounds_toArray, List.set_cons_zero, List.set_cons_succ])
   refine wpAnyH_take (i := 7) (v := ?_) rfl (by kernel_rfl) (by kernel_rfl) (by kernel_rfl) (fun _ _ _ h => h) (Or.inl ⟨by rfl, ?hy⟩) (by assumption) ?_
   case hy => (intro w hSw; (try dsimp only at hSw); go_simp; with_reducible rfl)
   (try simp only [Act.put, List.setIfInBounds_toArray, List.set_cons_zero, List.set_cons_succ])
   refine wpAnyH_take (i := 8) (v := ?_) rfl (by kernel_rfl) (by kernel_rfl) (by kernel_rfl) (fun _ _ _ h => h) (Or.inl ⟨by rfl, ?hy⟩) (by assumption) ?_
   case hy => (intro w hSw; (try dsimp only at hSw); go_simp; with_reducible rfl)
   (try simp only [Act.put, List.setIfInBounds_toArray, List.set_cons_zero, List.set_cons_succ])
   refine wpAnyH_take (i := 9) (v := ?_) rfl (by kernel_rfl) (by kernel_rfl) (by kernel_rfl) (fun _ _ _ h => h) (Or.inl ⟨by rfl, ?hy⟩) (by assumption) ?_
   case hy => (intro w hSw; (try dsimp only at hSw); go_simp; with_reducible rfl)
   (try simp only [Act.put, List.setIfInBounds_toArray, List.set_cons_zero, List.set_cons_succ])
   refine wpAnyH_take (i := 10) (v := ?_) rfl (by kernel_rfl) (by kernel_rfl) (by kernel_rfl) (fun _ _ _ h => h) (Or.inl ⟨by rfl, ?hy⟩) (by assumption) ?_
   case hy => (intro w hSw; (try dsimp only at hSw); go_simp; with_reducible rfl)
   (try simp only [Act.put, List.setIfInBounds_toArray, List.set_cons_zero, List.set_cons_succ])
   refine wpAnyH_take (i := 11) (v := ?_) rfl (by kernel_rfl) (by kernel_rfl) (by kernel_rfl) (fun _ _ _ h => h) (Or.inl ⟨by rfl, ?hy⟩) (by assumption) ?_
   case hy => (intro w hSw; (try dsimp only at hSw); go_simp; with_reducible rfl)
   (try simp only [Act.put, List.setIfInBounds_toArray, List.set_cons_zero, List.set_cons_succ])
   refine wpAnyH_done (by kernel_rfl) ?_ _
   go_upto_region 6 with fail
   generalize hW6 : World.drew (World.drew _) = W6
   have hE6 : Ev W0 W6 := by rw [← hW6]; exact Ev.drew (Ev.drew (Ev.refl _))
   have hE6w := hE0.trans hE6
   have y0 : W6.cell? ⟨w.heap.size, 0, none⟩ = some (.int .i64 a) := (hE6.cells.1 _ _ hww).trans x0
   have y1 : W6.cell? ⟨w.heap.size, 1, none⟩ = some (.bool true) := (hE6.cells.1 _ _ hww).trans x1
   have y12 : W6.cell? ⟨p, 12, none⟩ = some (.map (some mb)) := (hE6.cells.1 _ _ hpw).trans z12
   have hM6 : MapIs Try.prog 139 W6.drew mb g := (HMM.out.keep hE6 (HMM.out.lt)).same rfl
   obtain ⟨w7, hrun, hM7, hgr⟩ := hM6.update law151 Try.underlying132 hkey (v := .int .i64 (a - d))
   have HM7 := hid hM7
   have HGR := hid hgr
   have hpw6 : p < W6.heap.size := by have := hE6.size; omega
   have hww6 : w.heap.size < W6.heap.size := by have := hE6.size; omega
   have HS7 : Hid ((∀ o, w7.cell? ⟨p, o, none⟩ = W6.cell? ⟨p, o, none⟩) ∧ (∀ o, w7.cell? ⟨w.heap.size, o, none⟩ = W6.cell? ⟨w.heap.size, o, none⟩)) := hid ⟨fun o => (Mo.cells (show Mo mb W6.drew w7 from hgr)).1 p o hpw6 hpm, fun o => (Mo.cells (show Mo mb W6.drew w7 from hgr)).1 w.heap.size o hww6 (by omega)⟩
   clear hM6 hM7 hgr hW6 x0 x1 z12 z7
   refine wp_region_held_drew (S := fun w' => (∀ o, w'.cell? ⟨p, o, none⟩ = W6.cell? ⟨p, o, none⟩) ∧ (∀ o, w'.cell? ⟨w.heap.size, o, none⟩ = W6.cell? ⟨w.heap.size, o, none⟩)) (by kernel_rfl) ⟨fun o => rfl, fun o => rfl⟩ (fun hHeld => ?_)
   refine wpAnyH_take (i := 0) (v := ?_) rfl (by kernel_rfl) (by kernel_rfl) (by kernel_rfl) (fun _ _ _ h => h) (Or.inl ⟨by rfl, ?hy⟩) (by assumption) ?_
   case hy => (intro w hSw; (try dsimp only at hSw); go_simp; with_reducible rfl)
   (try simp only [Act.put, List.setIfInBounds_toArray, List.set_cons_zero, List.set_cons_succ])
   refine wpAnyH_take (i := 1) (v := ?_) rfl (by kernel_rfl) (by kernel_rfl) (by kernel_rfl) (fun _ _ _ h => h) (Or.inl ⟨by rfl, ?hy⟩) (by assumption) ?_
   case hy => (intro w hSw; (try dsimp only at hSw); go_simp; with_reducible rfl)
   (try simp only [Act.put, List.setIfInBounds_toArray, List.set_cons_zero, List.set_cons_succ])
   refine wpAnyH_take (i := 2) (v := ?_) rfl (by kernel_rfl) (by kernel_rfl) (by kernel_rfl) (fun _ _ _ h => h) (Or.inl ⟨by rfl, ?hy⟩) (by assumption) ?_
   case hy => (intro w hSw; (try dsimp only at hSw); go_simp; with_reducible rfl)
   (try simp only [Act.put, List.setIfInBounds_toArray, List.set_cons_zero, List.set_cons_succ])
   refine wpAnyH_take (i := 3) (v := ?_) rfl (by kernel_rfl) (by kernel_rfl) (by kernel_rfl) (fun _ _ _ h => h) (Or.inl ⟨by rfl, ?hy⟩) (by assumption) ?_
   case hy => (intro w hSw; (try dsimp only at hSw); go_simp; with_reducible rfl)
   (try simp only [Act.put, List.setIfInBounds_toArray, List.set_cons_zero, List.set_cons_succ])
   refine wpAnyH_take (i := 4) (v := ?_) rfl (by kernel_rfl) (by kernel_rfl) (by kernel_rfl) (fun _ _ _ h => h) (Or.inl ⟨by rfl, ?hy⟩) (by assumption) ?_
   case hy => (intro w hSw; (try dsimp only at hSw); go_simp; with_reducible rfl)
   (try simp only [Act.put, List.setIfInBounds_toArray, List.set_cons_zero, List.set_cons_succ])
   refine wpAnyH_take (i := 5) (v := ?_) rfl (by kernel_rfl) (by kernel_rfl) (by kernel_rfl) (fun _ _ _ h => h) (Or.inl ⟨by rfl, ?hy⟩) (by assumption) ?_
   case hy => (intro w hSw; (try dsimp only at hSw); go_simp; with_reducible rfl)
   (try simp only [Act.put, List.setIfInBounds_toArray, List.set_cons_zero, List.set_cons_succ])
   refine wpAnyH_ready (rs := [6]) (by kernel_rfl) (by simp) ?_
   refine AllReadyH.cons rfl (fun K hK => ?_) AllReadyH.nil
   go_simp
   refine hK.out _ _ (HS7.out) (fun hHeld => ?_)
   clear hK K
   (try simp only [Act.put, List.setIfInBounds_toArray, List.set_cons_zero, List.set_cons_succ])
   refine wpAnyH_done (by kernel_rfl) ?_ _
   go_wp2_with fail
   go_ret
   refine ⟨by rw [HLV.out]; rfl, ⟨_, ?_, HM7.out⟩, (Mo.ev (Ev.drew hE6w)).trans (show Mo mb W6.drew w7 from HGR.out)⟩
   rw [← HLV.out]
   exact HG.out.put a true

end Go.Proofs.Ytgimcephbeajlaa
