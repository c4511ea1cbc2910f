import Derived.Test.YtffbkbcjddigdaaA3
set_option linter.unusedSimpArgs false
set_option linter.unusedVariables false
namespace Go.Proofs.Ytffbkbcjddigdaa
open Go.RowKit

theorem info55 : (Try.prog.info? 57).map (fun i => (i.zero, i.size, i.bytes)) = some (some (.agg #[.int .i64 0, .int .i64 0]), 2, 16) := by kernel_rfl
theorem rgc_len (ys : List M.Rg) : ∀ y ∈ ys, (rgc y).length = 2 := fun _ _ => rfl
theorem rgc_one (ys : List M.Rg) : ∀ u ∈ ys.flatMap rgc, u.oneCell' = true := by
  intro u hu
  obtain ⟨y, _, hy⟩ := List.mem_flatMap.1 hu
  simp [rgc] at hy
  rcases hy with rfl | rfl <;> rfl
/-- What the slices of a field hold. -/
structure CS (w : World) (B : Nat) (f : M.Cf) (Ag Aw Ab Ac Al : Option Addr) (ng cg nw cw nb cb nc cc nl cl : Nat) : Prop where
  g : Sl rgc 2 w B Ag ng cg f.gr
  w_ : Sl ics 1 w B Aw nw cw f.wet
  b : Sl ics 1 w B Ab nb cb f.base
  c : Sl ics 1 w B Ac nc cc f.crops
  l : Sl lkc 3 w B Al nl cl f.looks
theorem CS.ev {w w' : World} {f : M.Cf} {Ag Aw Ab Ac Al : Option Addr} {ng cg nw cw nb cb nc cc nl cl : Nat} (h : CS w w.heap.size f Ag Aw Ab Ac Al ng cg nw cw nb cb nc cc nl cl) (hE : Ev w w') : CS w' w'.heap.size f Ag Aw Ab Ac Al ng cg nw cw nb cb nc cc nl cl :=
  ⟨h.g.ev hE, h.w_.ev hE, h.b.ev hE, h.c.ev hE, h.l.ev hE⟩

theorem eq_nil (c : Nat) (wx : World) : (binOp .eql 35 (.slice none 0 c) (.slice none 0 0)).run Try.prog wx = .ok (.bool true) wx := by
  simp [binOp, Op.equal, Op.maxDepth, Lib.run_equalIn_slice_nil wx 9999 35 57 none 0 c 0 0 Try.underlying35]
theorem ne_nil (ad : Addr) (n c : Nat) (wx : World) : (binOp .eql 35 (.slice (some ad) n c) (.slice none 0 0)).run Try.prog wx = .ok (.bool false) wx := by
  simp [binOp, Op.equal, Op.maxDepth, Lib.run_equalIn_slice_nil wx 9999 35 57 (some ad) n c 0 0 Try.underlying35]

set_option maxRecDepth 100000 in
set_option maxHeartbeats 1000000 in
theorem cloneR_c (A : Option Addr) (n c : Nat) (xs : List M.Rg) (hn : n ≤ 1000) (w : World) (hs : Sl rgc 2 w w.heap.size A n c xs) :
    Calls Try.prog 108 #[.slice A n c] w fun e w' => (∃ B d, e = .returned (.slice B n d) ∧ w'.ownsRow w.heap.size 57 2 (.slice B n d) n (xs.flatMap rgc)) ∧ Ev w w' := by
  obtain ⟨i0, hi0, hz0, hz1, hz2⟩ := info_parts info55
  cases A with
  | none =>
    have hm0 : n = 0 := by
      rcases Nat.eq_zero_or_pos n with h | h
      · exact h
      · obtain ⟨b, off, hA, _⟩ := hs.cells h; cases hA
    subst hm0
    obtain rfl : xs = [] := List.eq_nil_of_length_eq_zero hs.len
    have hq : ∀ wx : World, (binOp .eql 35 (.slice none 0 c) (.slice none 0 0)).run Try.prog wx = .ok (.bool true) wx := fun wx => eq_nil c wx
    go_enter Try.func108, Try.ntmps108
    go_wp2
    go_ret
    exact ⟨⟨none, 0, rfl, World.ownsRow_nil _ _ _ _⟩, Ev.refl _⟩
  | some ad =>
    have HS := hid hs
    have hq : ∀ wx : World, (binOp .eql 35 (.slice (some ad) n c) (.slice none 0 0)).run Try.prog wx = .ok (.bool false) wx := fun wx => ne_nil ad n c wx
    clear hs
    go_enter Try.func108, Try.ntmps108
    go_wp2_with (at_builtin; refine append_sl (enc := rgc) rfl (.tmp 5) (.tmp 6) 35 rfl w.heap.size 57 i0 _ 2 16 Try.underlying35 hi0 hz0 hz1 hz2 rfl (by decide) _ 0 [] rfl (World.ownsRow_lit w _ 0 (Nat.le_refl _) (by decide) rfl) (some ad) n c xs _ rfl (HS.out.ev (Ev.alloc (Ev.refl _) _)) (rgc_len _) (rgc_one xs) (fun h => by cases h) (by unfold maxLen; omega) (by omega) (by simp) ?_; intro v' w3 hown' hgrow; have hown2 : w3.ownsRow w.heap.size 57 2 v' n (xs.flatMap rgc) := (by simpa using hown'); obtain ⟨B, d, rfl⟩ := own_form hown2; have HG := hid hgrow; have HO := hid hown2; clear hown' hown2 hgrow)
    go_ret
    exact ⟨⟨B, d, rfl, HO.out⟩, Ev.grown (Ev.alloc (Ev.refl _) _) HG.out (fun k e => by have e2 : some w.heap.size = some k := e; simp at e2; omega)⟩

/-- What a week's Wet leaves open. -/
def M.wr (s : Int) : M.Rg := if s = 2 then ⟨0, 1⟩ else ⟨s, s⟩
def M.ranges (f : M.Cf) : List M.Rg := f.gr ++ f.wet.map M.wr

set_option maxRecDepth 100000 in
set_option maxHeartbeats 2000000 in
theorem ranges_c (f : M.Cf) (Ag Aw Ab Ac Al : Option Addr) (ng cg nw cw nb cb nc cc nl cl : Nat) (hn : ng ≤ 100) (hw : nw ≤ 100) (w : World) (hs : CS w w.heap.size f Ag Aw Ab Ac Al ng cg nw cw nb cb nc cc nl cl) :
    Calls Try.prog 82 #[.agg #[.int .i64 f.last, .slice Ag ng cg, .slice Aw nw cw, .slice Ab nb cb, .slice Ac nc cc, .int .i64 f.ripe, .int .i64 f.late, .int .i64 f.trod, .slice Al nl cl]] w fun e w' => (∃ B d, e = .returned (.slice B (ng + nw) d) ∧ Sl rgc 2 w' w'.heap.size B (ng + nw) d (M.ranges f)) ∧ Ev w w' := by
  obtain ⟨i0, hi0, hz0, hz1, hz2⟩ := info_parts info55
  have HCL := hid (fun W (hE : Ev w W) => cloneR_c Ag ng cg f.gr (by omega) W (hs.g.ev hE))
  have hw_ := hs.w_
  have hwl := hs.w_.len
  clear hs
  go_enter Try.func82, Try.ntmps82
  go_upto_region 2 with (go_at_call 108; with_reducible refine (HCL.out _ (Ev.alloc (Ev.refl _) _)).mono ?_; rintro e w1 ⟨⟨B, d, rfl, hown0⟩, hb1⟩; have HO0 := hid hown0; clear hown0; obtain ⟨y0, y1, y2, y3, y4, y5, y6, y7, y8⟩ := cells9 (hb1.heap (alloc1 w (.cells #[.int .i64 f.last, .slice Ag ng cg, .slice Aw nw cw, .slice Ab nb cb, .slice Ac nc cc, .int .i64 f.ripe, .int .i64 f.late, .int .i64 f.trod, .slice Al nl cl] 38)).1))
  have hE1 : Ev w w1 := Ev.trans (Ev.alloc (Ev.refl _) _) hb1
  have hown1 : w1.ownsRow (w.heap.size + 1) 57 2 (.slice B ng d) ng (f.gr.flatMap rgc) := by have := HO0.out; simpa using this
  have hs1 := hb1.size
  simp at hs1
  go_upto_region 3 with fail
  go_loopw [3, 13] (fun v i wr => ∃ k : Nat, ∃ V : Option Addr, ∃ dd : Nat, v = .slice V (ng + k) dd ∧ i = .int .i64 k ∧ k ≤ nw ∧ Ev w wr ∧ wr.ownsRow (w.heap.size + 1) 57 2 (.slice V (ng + k) dd) (ng + k) ((f.gr ++ (f.wet.take k).map M.wr).flatMap rgc) ∧ w.heap.size + 1 ≤ wr.heap.size) (fun _ i _ => nw - (intOf i).toNat)
  case atStart => exact ⟨0, B, d, rfl, rfl, by omega, hE1, by simpa using hown1, by omega⟩
  case round =>
    obtain ⟨k, V, dd, rfl, rfl, hk, hB, hown, hBr⟩ := hrel
    by_cases hlt : k < nw
    · obtain ⟨b, off, x, rfl, hb, hx, hd, e0⟩ := hw_.int hB hlt
      have hcap := hw_.cap
      have HTK := hid (show f.wet.take (k + 1) = f.wet.take k ++ [x] by rw [List.take_add_one, hx]; rfl)
      clear hx hd
      by_cases h2 : x = 2
      · subst h2
        have HWR := hid (show (List.map M.wr [(2 : Int)]).flatMap rgc = [.int .i64 0, .int .i64 1] from rfl)
        go_upto_region 8 with fail
        generalize hW2 : World.alloc wr _ = W2
        have hE2 : Ev wr W2 := by rw [← hW2]; exact Ev.alloc (Ev.refl _) _
        have HQ2 := hid (show W2.heap[wr.heap.size]? = some (.cells #[.int .i64 0, .int .i64 1] 57 (0, 0)) by rw [← hW2]; exact (alloc1 wr _).1)
        have hs2 := hE2.size
        clear hW2
        obtain ⟨z0, z1⟩ := cells2 HQ2.out
        go_wp2_with (at_builtin; refine wpList_append_own_at _ rfl (.tmp 23) (.tmp 25) 35 rfl (w.heap.size + 1) 57 i0 _ 2 16 Try.underlying35 hi0 hz0 hz1 hz2 rfl (by decide) _ (ng + k) ((f.gr ++ (f.wet.take k).map M.wr).flatMap rgc) rfl ((hown.ev hE2).alloc _) ⟨W2.heap.size, 0, none⟩ 1 1 [.int .i64 0, .int .i64 1] rfl rfl (news_in (alloc1 W2 _).1) (by simp [Value.oneCell']) (by unfold maxLen; omega) (by omega) (by simp; omega) ?_; intro v' w3 hown' hgrow _ _; have hown3 : w3.ownsRow (w.heap.size + 1) 57 2 v' (ng + (k + 1)) ((f.gr ++ (f.wet.take (k + 1)).map M.wr).flatMap rgc) := (by rw [HTK.out, List.map_append, ← List.append_assoc, List.flatMap_append, HWR.out]; exact hown'); obtain ⟨V', cc', rfl⟩ := own_form hown3; have HE3 := hid (Ev.grown ((hB.trans hE2).alloc (.cells #[.int .i64 0, .int .i64 1] 57)) hgrow (fun q e => by have := (hown.lt q e).1; omega) : Ev w w3); have HO3 := hid hown3; have hG3 : w.heap.size + 1 ≤ w3.heap.size := (by have := hgrow.size; simp at this; omega); clear hown' hown3 hgrow)
        exact ⟨⟨k + 1, V', cc', rfl, by go_num, by omega, HE3.out, HO3.out, by have := HE3.out.size; have := hG3; omega⟩, by simp [intOf]; omega⟩
      · have HWR := hid (show (List.map M.wr [x]).flatMap rgc = [.int .i64 x, .int .i64 x] by simp [M.wr, h2, rgc])
        have b2 : (x == 2) = false := by simpa using h2
        go_upto_region 8 with fail
        generalize hW2 : World.alloc wr _ = W2
        have hE2 : Ev wr W2 := by rw [← hW2]; exact Ev.alloc (Ev.refl _) _
        have HQ2 := hid (show W2.heap[wr.heap.size]? = some (.cells #[.int .i64 x, .int .i64 x] 57 (0, 0)) by rw [← hW2]; exact (alloc1 wr _).1)
        have hs2 := hE2.size
        clear hW2
        obtain ⟨z0, z1⟩ := cells2 HQ2.out
        go_wp2_with (at_builtin; refine wpList_append_own_at _ rfl (.tmp 23) (.tmp 25) 35 rfl (w.heap.size + 1) 57 i0 _ 2 16 Try.underlying35 hi0 hz0 hz1 hz2 rfl (by decide) _ (ng + k) ((f.gr ++ (f.wet.take k).map M.wr).flatMap rgc) rfl ((hown.ev hE2).alloc _) ⟨W2.heap.size, 0, none⟩ 1 1 [.int .i64 x, .int .i64 x] rfl rfl (news_in (alloc1 W2 _).1) (by simp [Value.oneCell']) (by unfold maxLen; omega) (by omega) (by simp; omega) ?_; intro v' w3 hown' hgrow _ _; have hown3 : w3.ownsRow (w.heap.size + 1) 57 2 v' (ng + (k + 1)) ((f.gr ++ (f.wet.take (k + 1)).map M.wr).flatMap rgc) := (by rw [HTK.out, List.map_append, ← List.append_assoc, List.flatMap_append, HWR.out]; exact hown'); obtain ⟨V', cc', rfl⟩ := own_form hown3; have HE3 := hid (Ev.grown ((hB.trans hE2).alloc (.cells #[.int .i64 x, .int .i64 x] 57)) hgrow (fun q e => by have := (hown.lt q e).1; omega) : Ev w w3); have HO3 := hid hown3; have hG3 : w.heap.size + 1 ≤ w3.heap.size := (by have := hgrow.size; simp at this; omega); clear hown' hown3 hgrow)
        exact ⟨⟨k + 1, V', cc', rfl, by go_num, by omega, HE3.out, HO3.out, by have := HE3.out.size; have := hG3; omega⟩, by simp [intOf]; omega⟩
    · obtain rfl : k = nw := by omega
      have ht : f.wet.take k = f.wet := List.take_of_length_le (by omega)
      rw [ht] at hown
      have HOW := hid hown
      clear hown ht
      go_wp2
      go_ret
      exact ⟨⟨V, dd, rfl, sl_own (by decide) (rgc_len _) (by omega) HOW.out⟩, hB⟩

end Go.Proofs.Ytffbkbcjddigdaa
