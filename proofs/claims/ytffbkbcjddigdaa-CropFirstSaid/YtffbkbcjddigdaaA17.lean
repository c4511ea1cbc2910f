import Derived.Test.YtffbkbcjddigdaaA16
set_option linter.unusedSimpArgs false
set_option linter.unusedVariables false
namespace Go.Proofs.Ytffbkbcjddigdaa
open Go.RowKit Go.Shelf
attribute [local go_sem] Oper.semAt_some

set_option maxRecDepth 100000 in
set_option maxHeartbeats 4000000 in
theorem choices_seq (F : Fence) (hd : F.depth = none) (h124 : F.fn 122) (h125 : F.fn 123) (hro : F.round = none) (n pp L pc : Nat) (PA : Option Addr) (vs : List Hd) (ps : List (List Int)) (hL : L ≤ 100) (hpc : L ≤ pc) (R : Nat → Prop) (r1 : R pp) (w0 : World) (hRl : ∀ k, R k → k < w0.heap.size)
    (q1 : w0.heap[pp]? = some (.cells #[.slice PA L pc] 165 (0, 0))) (hrows : PR R w0 PA L vs ps) :
    SeqX F n Try.prog 122 #[.pointer (some ⟨pp, 0, none⟩)] (incE L) (incH L) R (M.choices ps) w0 := by
  intro l J Jx W hW hJ hJx hY h0
  have hdd : ∀ k : Nat, (F.depth.isSome = true → 1 ≤ k) := fun k h => by rw [hd] at h; cases h
  have hpl := heap_lt q1
  have hws := hW.size
  have hplW : pp < W.heap.size := by omega
  have c1 : W.cell? ⟨pp, 0, none⟩ = some (.slice PA L pc) := cell_in ((hW.block pp hpl).trans q1) 0
  have hch : ∀ W4, Ev W W4 → W4.heap.size = W.heap.size + 4 → ChS R W.heap.size pp L pc l PA vs ps (List.replicate L 0) W4 →
      CallsIn F (n - 1) Try.prog 123 #[.int .i64 0, .pointer (some ⟨pp, 0, none⟩), .pointer (some ⟨W.heap.size, 0, none⟩), .pointer (some ⟨W.heap.size + 1 + 1, 0, none⟩), .pointer (some ⟨W.heap.size + 1 + 1 + 1, 0, none⟩)] W4 fun e W' =>
        (∃ b, e = .returned (.bool b)) ∧ ∃ B, W.heap.size ≤ B ∧ (J B (M.choices ps) W' ∨ ∃ pre, pre <+: M.choices ps ∧ Jx B pre W') := by
    intro W4 hE hs hS
    have := chooseC_in F hd h125 hro l W.heap.size pp L pc PA vs ps hL hpc R r1 (fun k hk => by have := hRl k hk; omega) (M.choices ps) J Jx hJ
      (fun m B pre x W1 h1 h2 h3 h4 h5 => yield_any hd m (hY B pre x W1 h1 h2 h3 h4 h5)) ps (n - 1) 0 [] (List.replicate L 0) [] W4 (by rw [hrows.1]; omega) rfl hS (by omega) (by simp) (by rw [← hs]; exact h0 W4 hE) (by simp)
    refine CallsIn.mono this ?_
    rintro e W' (⟨rfl, hj, _, _⟩ | ⟨rfl, q, hq, hx⟩)
    · exact ⟨⟨_, rfl⟩, W.heap.size + 4, by omega, .inl (by simpa using hj)⟩
    · exact ⟨⟨_, rfl⟩, W.heap.size + 4, by omega, .inr ⟨q, hq, hx⟩⟩
  have HCH := hid hch
  have hmk := fun wx => make27 L hL wx
  have hal := alloc4 W (.cells #[.func (.yield l) #[] #[]] 105) (.cells (Array.replicate L (.int .i64 0)) 3) (.cells #[.slice (some ⟨W.heap.size + 1, 0, none⟩) L L] 23) (.cells #[.nilFunc] 119)
  have c9 := cell_in hal.2.2.2.1 0
  have f9 := frozen_in hal.2.2.2.1 0
  simp only [List.getElem?_toArray, List.getElem?_cons_zero] at c9
  clear hal
  have Q1 := hid ((hW.block pp hpl).trans q1)
  have QR := hid (hrows.same fun k hk hl => hW.block k (hRl k hk))
  clear hch hrows
  refine callsIn_of_wp Try.func122 rfl h124 ?_ hro
  simp only [Try.ntmps122, List.size_toArray, List.length_cons, List.length_nil, Nat.reduceAdd, Nat.reduceSub, Array.replicate_succ, Array.replicate_zero, List.push_toArray, List.append_toArray, List.nil_append, List.cons_append]
  have hcl := alloc4 W (.cells #[.func (.yield l) #[] #[]] 105) (.cells (Array.replicate L (.int .i64 0)) 3) (.cells #[.slice (some ⟨W.heap.size + 1, 0, none⟩) L L] 23) (.cells #[.func (.func 123) #[] #[.pointer (some ⟨pp, 0, none⟩), .pointer (some ⟨W.heap.size, 0, none⟩), .pointer (some ⟨W.heap.size + 1 + 1, 0, none⟩), .pointer (some ⟨W.heap.size + 1 + 1 + 1, 0, none⟩)]] 119)
  have hEv : Ev W ((((W.alloc (.cells #[.func (.yield l) #[] #[]] 105)).alloc (.cells (Array.replicate L (.int .i64 0)) 3)).alloc (.cells #[.slice (some ⟨W.heap.size + 1, 0, none⟩) L L] 23)).alloc (.cells #[.func (.func 123) #[] #[.pointer (some ⟨pp, 0, none⟩), .pointer (some ⟨W.heap.size, 0, none⟩), .pointer (some ⟨W.heap.size + 1 + 1, 0, none⟩), .pointer (some ⟨W.heap.size + 1 + 1 + 1, 0, none⟩)]] 119)) := Ev.alloc (Ev.alloc (Ev.alloc (Ev.alloc (Ev.refl _) _) _) _) _
  have hgo := HCH.out _ hEv hcl.2.2.2.2 ⟨hEv.heap Q1.out, hcl.1, by rw [hcl.2.1]; simp, hcl.2.2.1, hcl.2.2.2.1, by simp, QR.out.same fun k hk hl => hEv.block k hl⟩
  have HGO := hid hgo
  clear hcl hEv hgo
  gi_wp2_with ((try refine ⟨hdd _, ?_⟩); gi_at_call 123; with_reducible refine HGO.out.mono ?_; clear HGO; rintro e W1 ⟨⟨b, rfl⟩, hB⟩)
  go_end0
  exact ⟨⟨_, rfl⟩, hB⟩

set_option maxRecDepth 100000 in
set_option maxHeartbeats 1000000 in
theorem choices_c (PA : Option Addr) (L pc : Nat) (w : World) :
    Calls Try.prog 117 #[.slice PA L pc] w fun e w' => e = .returned (.func (.func 122) #[] #[.pointer (some ⟨w.heap.size, 0, none⟩)]) ∧ Ev w w' ∧ w'.heap[w.heap.size]? = some (.cells #[.slice PA L pc] 165 (0, 0)) := by
  have hal := alloc1 w (.cells #[.slice PA L pc] 165)
  have HAL := hid hal
  clear hal
  go_enter Try.func117, Try.ntmps117
  go_wp2
  go_ret
  exact ⟨rfl, Ev.alloc (Ev.refl _) _, HAL.out.1⟩

set_option maxRecDepth 100000 in
set_option maxHeartbeats 1000000 in
theorem allTruths_c (f : M.Cf) (Ag Aw Ab Ac Al : Option Addr) (ng cg nw cw nb cb nc cc nl cl : Nat) (w : World) :
    Calls Try.prog 97 #[.agg #[.int .i64 f.last, .slice Ag ng cg, .slice Aw nw cw, .slice Ab nb cb, .slice Ac nc cc, .int .i64 f.ripe, .int .i64 f.late, .int .i64 f.trod, .slice Al nl cl]] w fun e w' => e = .returned (.func (.func 115) #[] #[.pointer (some ⟨w.heap.size, 0, none⟩)]) ∧ Ev w w' ∧ w'.heap[w.heap.size]? = some (.cells #[.int .i64 f.last, .slice Ag ng cg, .slice Aw nw cw, .slice Ab nb cb, .slice Ac nc cc, .int .i64 f.ripe, .int .i64 f.late, .int .i64 f.trod, .slice Al nl cl] 38 (0, 0)) := by
  have hal := alloc1 w (.cells #[.int .i64 f.last, .slice Ag ng cg, .slice Aw nw cw, .slice Ab nb cb, .slice Ac nc cc, .int .i64 f.ripe, .int .i64 f.late, .int .i64 f.trod, .slice Al nl cl] 38)
  have HAL := hid hal
  clear hal
  go_enter Try.func97, Try.ntmps97
  go_wp2
  go_ret
  exact ⟨rfl, Ev.alloc (Ev.refl _) _, HAL.out.1⟩

end Go.Proofs.Ytffbkbcjddigdaa
