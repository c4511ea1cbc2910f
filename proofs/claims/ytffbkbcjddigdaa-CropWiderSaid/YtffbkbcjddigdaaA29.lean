import Derived.Test.YtffbkbcjddigdaaA26
set_option linter.unusedSimpArgs false
set_option linter.unusedVariables false
namespace Go.Proofs.Ytffbkbcjddigdaa
open Go.RowKit Go.Shelf
attribute [local go_sem] Oper.semAt_some

set_option maxRecDepth 100000 in
set_option maxHeartbeats 4000000 in
theorem shortW_in (v0 : Value) (sz : Nat) (hsz : sz ≤ 7) (p : List Int → Bool) (w : World) 
  (hcb : ∀ W B m d rows L, Ev w W → Sl ics 1 W W.heap.size B m d rows → rows ∈ M.incr sz L 0 → Calls Try.prog 70 #[v0, .slice B m d] W fun e w' => e = .returned (.bool (p rows)) ∧ Ev W w') :
  CallsIn Fence.wide 5 Try.prog 71 #[.agg #[v0, .int .i64 sz, .func (.func 70) #[] #[]]] w fun e w' => (∃ B d, e = .returned (.slice B (M.shortest p sz).length d) ∧ Sl ics 1 w' w'.heap.size B (M.shortest p sz).length d (M.shortest p sz)) ∧ Ev w w' := by
 have hdd : ∀ k : Nat, (Fence.wide.depth.isSome = true → 1 ≤ k) := fun k h => by cases h
 have HCB := hid hcb
 clear hcb
 refine callsIn_of_wp_marks Try.func71 rfl trivial ?_ rfl
 simp only [Try.ntmps71, List.size_toArray, List.length_cons, List.length_nil, Nat.reduceAdd, Nat.reduceSub, Array.replicate_succ, Array.replicate_zero, List.push_toArray, List.append_toArray, List.nil_append, List.cons_append]
 gi_wp2
 refine wpIn_wide.2 ?_
 apply wp_scope_straight
 refine (wpIn_wide (n := 5)).1 ?_
 have hal := alloc2 w (.cells #[v0, .int .i64 sz, .func (.func 70) #[] #[]] 123) (.cells #[.slice none 0 0] 23)
 have hE0 : Ev w ((w.alloc (.cells #[v0, .int .i64 sz, .func (.func 70) #[] #[]] 123)).alloc (.cells #[.slice none 0 0] 23)) := Ev.alloc (Ev.alloc (Ev.refl _) _) _
 have HAL := hid hal
 clear hal
 gi_wp2
 refine wpIn_wide.2 ?_
 apply wp_label
 gi_wp2
 generalize hW0 : World.alloc (World.alloc w _) _ = W0 at hE0 HAL
 have Q0 := hid HAL.out.1
 have Q1 := hid HAL.out.2.1
 clear HAL hW0
 refine wpIn_loop (fun a W => ∃ (k : Nat) (Ds : List Nat) (u4 u5 u10 u11 u12 u13 u14 u15 u16 u17 u18 u19 u20 u21 u22 u23 u24 u25 u26 u27 : Value), a = { tmps := #[.agg #[v0, .int .i64 sz, .func (.func 70) #[] #[]], .pointer (some ⟨w.heap.size, 0, none⟩), .slice none 0 0, .pointer (some ⟨w.heap.size + 1, 0, none⟩), u4, u5, .pointer (some ⟨w.heap.size, 1, none⟩), .int .i64 sz, .int .i64 ((sz : Int) + 1), .int .i64 k, u10, u11, u12, u13, u14, u15, u16, u17, u18, u19, u20, u21, u22, u23, u24, u25, u26, u27], defers := marks Ds } ∧ k ≤ sz + 1 ∧ Ev w W ∧
   Hid (W.heap[w.heap.size]? = some (.cells #[v0, .int .i64 sz, .func (.func 70) #[] #[]] 123 (0, 0))) ∧ Hid (W.heap[w.heap.size + 1]? = some (.cells #[.slice none 0 0] 23 (0, 0))) ∧ Ds.Nodup ∧ Hid (∀ D ∈ Ds, w.heap.size + 2 ≤ D ∧ W.heap[D]? = some (.deferred (some []))) ∧ Hid (M.first p sz k (sz + 1 - k) = M.shortest p sz))
  (fun a _ => sz + 1 - (intOf (a.tmps.getD 9 undef)).toNat) ?_ ?_
 ·
  exact ⟨0, [], undef, undef, undef, undef, undef, undef, undef, undef, undef, undef, undef, undef, undef, undef, undef, undef, undef, undef, undef, undef, rfl, by omega, hE0, Q0, Q1, List.nodup_nil, hid (by simp), hid rfl⟩
 ·
  rintro a W ⟨k, Ds, u4, u5, u10, u11, u12, u13, u14, u15, u16, u17, u18, u19, u20, u21, u22, u23, u24, u25, u26, u27, rfl, hk, hE, HS, HB, hnd, HD, HF⟩
  have hws := hE.size
  have hSl := heap_lt HS.out
  have hBl := heap_lt HB.out
  obtain ⟨s0, s1, s2⟩ := cells3 HS.out
  have b0 := cell_in HB.out 0
  simp only [List.getElem?_toArray, List.getElem?_cons_zero] at b0
  by_cases hlt : k < sz + 1
  ·
   have hcl : CallsIn Fence.wide 4 Try.prog 99 #[.int .i64 sz, .int .i64 k] W _ := callsIn_wide.2 (increasing_c sz k W)
   have HCL := hid hcl
   clear hcl
   gi_wp2_with ((try refine ⟨trivial, ?_⟩); (try refine ⟨hdd _, ?_⟩); gi_at_call 99; with_reducible refine HCL.out.mono ?_; clear HCL; rintro e W1 ⟨rfl, hE1, hq1, hq2⟩)
   have hk7 : k ≤ 7 := by omega
   have hz1 := heap_lt hq1
   have hz0 := heap_lt hq2
   have hfb : w.heap.size + 1 < W1.heap.size := by have := hE1.size; omega
   have hBW1 := hE1.heap HB.out
   have hSW1 := hE1.heap HS.out
   have HBW := hid hBW1
   have HSW := hid hSW1
   have hnd1 : (W1.heap.size :: Ds).Nodup := List.nodup_cons.2 ⟨fun hm => by have := heap_lt (HD.out _ hm).2; have := hE1.size; omega, hnd⟩
   have hN : ∀ (B : Nat) (x y : World), W1.heap.size ≤ B → Bar W1.heap.size B x y → Ev W1 x → Ev W1 y := fun B x y hB hb h => Below.trans h (hb.below (Nat.le_refl _) h.size)
   refine rangeX (F := Fence.wide) (n := 5) rfl (by omega) (gf := 118) (lb := #[.pointer (some ⟨W.heap.size + 1, 0, none⟩), .pointer (some ⟨W.heap.size, 0, none⟩)]) rfl trivial (fun args w => Try.call118 args w)
    (incr_seq Fence.wide rfl trivial trivial rfl 4 (W.heap.size + 1) W.heap.size k sz (by omega) (by omega) W1 hq1 hq2) (Below.refl _ _) (fun j hj => by rcases hj with rfl | rfl <;> assumption) (fun _ => rfl) (incH_keep k)
    (fun _ pre X => (∀ x ∈ pre, p x = false) ∧ Ev W1 X)
    (fun B c pre X => c = .exit 0 ∧ ∃ x pre0 v, pre = pre0 ++ [x] ∧ (∀ y ∈ pre0, p y = false) ∧ p x = true ∧ Bar (w.heap.size + 1) (w.heap.size + 2) W1 X ∧ X.heap[w.heap.size + 1]? = some (.cells #[v] 23 (0, 0)) ∧ X.ownsRow B 3 1 v x.length (x.flatMap ics) ∧ x.length ≤ 7)
    (fun _ x a' _ => a' = { tmps := #[Value.agg #[v0, .int .i64 sz, .func (.func 70) #[] #[]], .pointer (some ⟨w.heap.size, 0, none⟩), .slice none 0 0, .pointer (some ⟨w.heap.size + 1, 0, none⟩), .int .i64 k, (.slice (some ⟨W1.heap.size + 2 + 1, 0, none⟩) k k), .pointer (some ⟨w.heap.size, 1, none⟩), .int .i64 sz, .int .i64 ((sz : Int) + 1), .int .i64 k, .bool true, .int .i64 k, .pointer (some ⟨w.heap.size, 1, none⟩), .int .i64 sz, .int .i64 k, .func (.func 118) #[] #[.pointer (some ⟨W.heap.size + 1, 0, none⟩), .pointer (some ⟨W.heap.size, 0, none⟩)], (.slice (some ⟨W1.heap.size + 2 + 1, 0, none⟩) k k), u17, u18, u19, u20, u21, u22, u23, u24, u25, u26, u27], defers := [] })
    (fun B s x y hB h hb => ⟨h.1, hN B x y hB hb h.2⟩)
    (fun c B s x y hB h hb => by
     obtain ⟨rfl, z, pre0, v, h1, h2, h3, h4, h5, h6, h7⟩ := h
     refine ⟨rfl, z, pre0, v, h1, h2, h3, ⟨hb.os.trans h4.os, hb.tape.trans h4.tape, hb.output.trans h4.output, Nat.le_trans h4.size hb.size, fun j hj hn => ?_⟩, ?_, ownsRow_bar h6 hb, h7⟩
     ·
      exact (hb.block j (by have := h4.size; omega) (by omega)).trans (h4.block j hj hn)
     ·
      exact (hb.block _ (heap_lt h5) (by omega)).trans h5)
    (fun a' B s x y hB h hb => h)
    (fun X hX => ⟨by simp, hX⟩) ?assign ?body ?done ?stop
   case assign =>
    intro l B pre x X K hB hBX hI _ hK
    unfold incE
    gi_wp2
    exact hK _ _ (Ev.refl _) rfl
   case body =>
    rintro l B pre x a' X hB hBX ⟨hp, hEX⟩ rfl hh hpre
    obtain ⟨i0, hi, hz0', hz1', hz2'⟩ := info_parts info3
    have hxm : x ∈ M.incr sz k 0 := hpre.subset (by simp)
    have hEw := (hE.trans hE1).trans hEX
    have hsx := hh.2.keep (Below.refl _ X) hBX
    have hcx : CallsIn (Fence.wide.inRound l) 2 Try.prog 70 #[v0, .slice (some ⟨W1.heap.size + 2 + 1, 0, none⟩) k k] X _ := CallsIn.inRound l (callsIn_wide.2 (HCB.out X _ _ _ x k hEw hsx hxm))
    obtain ⟨s0, s1, s2⟩ := cells3 (hEX.heap HSW.out)
    have hxl : x.length = k := hsx.len
    have HCX := hid hcx
    have HSX := hid hsx
    clear hcx hsx
    cases hpx : p x with
    | true =>
     rw [hpx] at HCX
     have HPX := hid hpx
     clear hpx
     gi_wp2_with (first | ((try refine ⟨trivial, ?_⟩); (try refine ⟨hdd _, ?_⟩); gi_at_call 70; with_reducible refine HCX.out.mono ?_; rintro e X1 ⟨rfl, hE3⟩; have hB3 := (hE3.heap (hEX.heap HBW.out)); have b3 := cell_in hB3 0; simp only [List.getElem?_toArray, List.getElem?_cons_zero] at b3) | (gi_at_builtin; refine wpListIn_append_own _ rfl (.tmp 23) (.tmp 24) 23 rfl B 3 i0 _ 1 8 Try.underlying23 hi hz0' hz1' hz2' rfl (by decide) (.slice none 0 0) 0 [] rfl (World.ownsRow_nil _ _ _ _) ⟨W1.heap.size + 2 + 1, 0, none⟩ k k (x.flatMap ics) rfl (by rw [flat_len ics 1 x (fun _ _ => rfl), hxl]) (slice_news (HSX.out.ev hE3)) (ics_one x) (by unfold maxLen; omega) (by omega) (by have := hE3.size; omega) ?_; intro v' X2 hown' hgrow _; obtain ⟨D', d', rfl, hsl'⟩ := Sl.of_own (enc := ics) (sz := 1) (xs := x) (by decide) (fun _ _ => rfl) (by omega) hown'; have hB4 : X2.heap[w.heap.size + 1]? = some (.cells #[.slice none 0 0] 23 (0, 0)) := (hgrow.block _ (heap_lt hB3) (by simp [Value.ownBlock])).trans hB3; have b4 := cell_in hB4 0; have b5 := frozen_in hB4 0; simp only [List.getElem?_toArray, List.getElem?_cons_zero] at b4))
     have hE4 : Ev X X2 := Ev.grown hE3 hgrow (fun k e => by simp [Value.ownBlock] at e)
     rw [List.nil_append] at hown'
     have hown2 : X2.ownsRow B 3 1 (.slice D' k d') x.length (x.flatMap ics) := by rw [hxl]; simpa using hown'
     refine ⟨⟨?_, fun j hj hor => ?_⟩, rfl, x, pre, rfl, hp, HPX.out, ?_, .slice D' k d', by rw [set_heap_same hB4]; rfl, ?_, by omega⟩
     ·
      have := hE4.size
      simpa [World.setCell] using this
     ·
      rcases hor with hf | hor
      ·
       exact hf.elim
      ·
       exact (Below.heap_setCell _ _ _ j (by simp; omega)).trans (hE4.block j hj)
     ·
      exact (Bar.ev (hEX.trans hE4)).trans (Bar.setCell _ (by simp) (by simp))
     ·
      have := ownsRow_setCell_below hown2 (a := ⟨w.heap.size + 1, 0, none⟩) (show w.heap.size + 1 < B by omega) (.slice D' k d')
      simpa using this
    | false =>
     rw [hpx] at HCX
     have HPX := hid hpx
     clear hpx
     gi_wp2_with ((try refine ⟨trivial, ?_⟩); (try refine ⟨hdd _, ?_⟩); gi_at_call 70; with_reducible refine HCX.out.mono ?_; rintro e X1 ⟨rfl, hE3⟩)
     refine ⟨⟨hE3.size, fun j hj _ => hE3.block j hj⟩, fun y hy => ?_, hEX.trans hE3⟩
     rcases List.mem_append.1 hy with hy | hy
     ·
      exact hp y hy
     ·
      rw [show y = x by simpa using hy]; exact HPX.out
   case done =>
    rintro B X hB ⟨hp, hEX⟩ hD
    gi_wp2
    refine ⟨⟨k + 1, W1.heap.size :: Ds, _, _, _, _, _, _, _, _, _, _, _, _, _, _, _, _, _, _, _, _, by rw [show ((k + 1 : Nat) : Int) = (k : Int) + 1 from by omega]; rfl, by omega, (hE.trans hE1).trans hEX, hid (hEX.heap HSW.out), hid (hEX.heap HBW.out), hnd1, hid ?_, hid ?_⟩, by simp [intOf]; omega⟩
    ·
     intro D hDm
     rcases List.mem_cons.1 hDm with rfl | hDm
     ·
      exact ⟨by omega, hD⟩
     ·
      exact ⟨(HD.out D hDm).1, hEX.heap (hE1.heap (HD.out D hDm).2)⟩
    ·
     rw [← HF.out, show sz + 1 - k = (sz + 1 - (k + 1)) + 1 from by omega]
     have hfn : (M.incr sz k 0).find? p = none := List.find?_eq_none.2 (fun x hx => by rw [hp x hx]; decide)
     conv => rhs; unfold M.first
     rw [hfn]
   case stop =>
    rintro B c pre X hB hpre ⟨rfl, x, pre0, v, rfl, hp, hpx, hbar, hbx, hown, hx7⟩ hD
    obtain ⟨D', d', rfl, hsl'⟩ := Sl.of_own (enc := ics) (sz := 1) (xs := x) (by decide) (fun _ _ => rfl) (by omega) hown
    have b5 := cell_in hbx 0
    simp only [List.getElem?_toArray, List.getElem?_cons_zero] at b5
    gi_wp2
    have hfn : (M.incr sz k 0).find? p = some x := by
     obtain ⟨r, hr⟩ := hpre
     rw [← hr, List.append_assoc, List.find?_append, List.find?_eq_none.2 (fun y hy => by rw [hp y hy]; decide)]
     simp [hpx]
    have hxs : M.shortest p sz = x := by
     rw [← HF.out, show sz + 1 - k = (sz + 1 - (k + 1)) + 1 from by omega]
     unfold M.first
     rw [hfn]
    show LeavesInM Fence.wide 5 Try.prog Try.f71 _ _ (marks (W1.heap.size :: Ds)) .returning X
    have hEb : Below w.heap.size w X := Below.trans (hE.trans hE1) (hbar.below (by omega) (by have := (hE.trans hE1).size; omega))
    refine leaves_marks (A := w.heap.size) (W1.heap.size :: Ds) X hnd1 (fun D hDm => ?_) (fun w' hb' hk' => ?_)
    ·
     rcases List.mem_cons.1 hDm with rfl | hDm
     ·
      exact ⟨by omega, hD⟩
     ·
      obtain ⟨h1, h2⟩ := HD.out D hDm
      exact ⟨by omega, (hbar.block D (heap_lt (hE1.heap h2)) (by omega)).trans (hE1.heap h2)⟩
    ·
     have hnm : ∀ (j : Nat) (o : Obj), X.heap[j]? = some o → o.isCells = true → w'.heap[j]? = some o := fun j o ho hc => by
      refine (hk' j (fun hm => ?_)).trans ho
      have : X.heap[j]? = some (.deferred (some [])) := by
       rcases List.mem_cons.1 hm with rfl | hm
       ·
        exact hD
       ·
        obtain ⟨h1, h2⟩ := HD.out j hm
        exact (hbar.block j (heap_lt (hE1.heap h2)) (by omega)).trans (hE1.heap h2)
      rw [this] at ho
      cases ho
      cases hc
     obtain ⟨D2, d2, he2, hsl2⟩ := Sl.of_own (enc := ics) (sz := 1) (xs := x) (by decide) (fun _ _ => rfl) (by omega) (ownsRow_cells hown hnm)
     refine ⟨_, results_tmp rfl _ _ _, ⟨D2, d2, ?_, ?_⟩, Below.trans hEb hb'⟩
     ·
      rw [hxs, ← he2]; rfl
     ·
      rw [hxs]; exact hsl2
  ·
   have hks : k = sz + 1 := by omega
   subst hks
   have hF := HF.out
   rw [Nat.sub_self] at hF
   have HFF := hid hF
   clear hF
   gi_wp2
   show LeavesInM Fence.wide 5 Try.prog Try.f71 _ _ (marks Ds) .returning W
   refine leaves_marks (A := w.heap.size) Ds W hnd (fun D hDm => ⟨by have := (HD.out D hDm).1; omega, (HD.out D hDm).2⟩) (fun w' hb' _ => ?_)
   refine ⟨_, results_tmp rfl _ _ _, ⟨none, 0, ?_, ?_⟩, Below.trans hE hb'⟩
   ·
    rw [← HFF.out]; rfl
   ·
    rw [← HFF.out]; exact ⟨rfl, Nat.le_refl _, by simp [M.first], fun h => by simp [M.first] at h⟩

end Go.Proofs.Ytffbkbcjddigdaa

set_option linter.unusedSimpArgs false
set_option linter.unusedVariables false
namespace Go.Proofs.Ytffbkbcjddigdaa
open Go.RowKit Go.Shelf

/-- From the least number to the greatest one. -/
def M.span : List Int → M.Rg
 | [] => ⟨0, 0⟩
 | x :: xs => ⟨M.least x xs, M.most x xs⟩
def M.total (f : M.Cf) (t : M.Tr) (plan : List Int) : Int := ((M.play f t plan).map M.Cr.wo).sum
set_option maxRecDepth 100000 in
set_option maxHeartbeats 2000000 in
theorem span_c (A : Option Addr) (m d : Nat) (x : Int) (xs : List Int) (w : World) (hs : Sl ics 1 w w.heap.size A (m + 1) d (x :: xs)) :
  Calls Try.prog 65 #[.slice A (m + 1) d] w fun e w' => e = .returned (.agg #[.int .i64 (M.least x xs), .int .i64 (M.most x xs)]) ∧ Ev w w' := by
 obtain ⟨b, off, hA, hb, hc⟩ := hs.cells (by omega)
 subst hA
 obtain ⟨T, t1, t2, hsT⟩ := tail1 hs
 have hcap := hs.cap
 have e0 := hc 0 x rfl 0 _ rfl
 simp only [Nat.zero_mul, Nat.add_zero] at e0
 have HL := hid (fun W (hE : Ev w W) => least_c x T m (d - 1) xs W (hsT.ev hE))
 have HM := hid (fun W (hE : Ev w W) => most_c (some ⟨b, off, none⟩) (m + 1) d x xs W (hs.ev hE))
 have m0 : (0 : Int) < (m : Int) + 1 := by omega
 generalize M.least x xs = lo at HL
 generalize M.most x xs = hi at HM
 clear hs hc hsT
 go_enter Try.func65, Try.ntmps65
 go_upto_region 1 with fail
 generalize hW0 : World.alloc w _ = W0
 have hE0 : Ev w W0 := by rw [← hW0]; exact Ev.alloc (Ev.refl _) _
 have hal := alloc1 w (.cells #[.int .i64 0, .int .i64 0] 57)
 rw [hW0] at hal
 have Q0 := hid hal.1
 have y0 := (hE0.cells.1 b off hb).trans e0
 have lb : b < W0.heap.size := by have := hE0.size; omega
 clear hal hW0 e0
 have HSE : Hid (∀ w', Ev W0 w' → (∀ o, w'.cell? ⟨b, o, none⟩ = W0.cell? ⟨b, o, none⟩)) := hid (fun w' h => fun o => h.cells.1 _ o lb)
 refine wp_region_held_drew (S := fun w' => (∀ o, w'.cell? ⟨b, o, none⟩ = W0.cell? ⟨b, o, none⟩)) (by kernel_rfl) (fun o => rfl) (fun hHeld => ?_)
 refine tkH 0 (some 3) ?_
 (try simp only [Act.put, sA, sB, sC])
 refine tkH 1 (some 4) ?_
 (try simp only [Act.put, sA, sB, sC])
 refine tkH 2 (some 5) ?_
 (try simp only [Act.put, sA, sB, sC])
 refine tkH 3 (some 6) ?_
 (try simp only [Act.put, sA, sB, sC])
 refine tkH 4 (some 7) ?_
 (try simp only [Act.put, sA, sB, sC])
 refine tkH 6 (some 9) ?_
 (try simp only [Act.put, sA, sB, sC])
 refine wpAnyH_one (i := 5) rfl (by kernel_rfl) (by rfl) (fun K hK => ?_)
 go_simp
 refine (HL.out _ (hE0.trans (Ev.drew (Ev.refl _)))).mono ?_
 rintro e w1 ⟨rfl, hb1⟩
 have hE1 : Ev W0 w1 := Ev.trans (Ev.drew (Ev.refl _)) hb1
 refine hK.out _ _ (HSE.out _ hE1) (fun hHeld => ?_)
 clear hK K
 (try simp only [Act.put, List.setIfInBounds_toArray, List.set_cons_zero, List.set_cons_succ])
 refine wpAnyH_one (i := 7) rfl (by kernel_rfl) (by rfl) (fun K hK => ?_)
 go_simp
 refine (HM.out _ (hE0.trans hE1)).mono ?_
 rintro e w2 ⟨rfl, hb2⟩
 have hE2 : Ev W0 w2 := hE1.trans hb2
 refine hK.out _ _ (HSE.out _ hE2) (fun hHeld => ?_)
 clear hK K
 (try simp only [Act.put, List.setIfInBounds_toArray, List.set_cons_zero, List.set_cons_succ])
 refine tkH 8 (some 11) ?_
 (try simp only [Act.put, sA, sB, sC])
 have hq2 := hE2.heap Q0.out
 obtain ⟨g0, g1⟩ := cells2 hq2
 obtain ⟨f0, f1⟩ := frz2 hq2
 have HQ2 := hid hq2
 clear hq2
 refine wpAnyH_one (i := 9) rfl (by kernel_rfl) (by rfl) (fun K hK => ?_)
 go_simp
 have hF : ((w2.setCell ⟨w.heap.size, 0, none⟩ (.int .i64 lo)).setCell ⟨w.heap.size, 1, none⟩ (.int .i64 hi)).heap[w.heap.size]? = some (.cells #[.int .i64 lo, .int .i64 hi] 57 (0, 0)) := by
  rw [set_heap_same (set_heap_same HQ2.out)]; rfl
 have HF := hid hF
 clear hF
 refine hK.out _ _ (fun o => (cell_set_ne (by simp; omega)).trans ((cell_set_ne (by simp; omega)).trans (HSE.out _ hE2 o))) (fun hHeld => ?_)
 clear hK K
 (try simp only [Act.put, List.setIfInBounds_toArray, List.set_cons_zero, List.set_cons_succ])
 refine wpAnyH_done (by kernel_rfl) ?_ _
 go_wp2_with fail
 obtain ⟨d0, d1⟩ := cells2 HF.out
 refine bodyPost_ret (v := .agg #[.int .i64 lo, .int .i64 hi]) (by simp [results, Try.results65, go_sem, d0, d1]) rfl ⟨rfl, ?_⟩
 exact Ev.setCell (Ev.setCell (hE0.trans hE2) (by simp) _) (by simp) _

end Go.Proofs.Ytffbkbcjddigdaa
