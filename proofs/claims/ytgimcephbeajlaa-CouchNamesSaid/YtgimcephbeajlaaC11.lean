import Derived.Test.YtgimcephbeajlaaC10
set_option linter.unusedSimpArgs false
set_option linter.unusedVariables false
namespace Go.Proofs.Ytgimcephbeajlaa
open Go.RowKit Go.Shelf
attribute [local go_sem] Oper.semAt_some


set_option maxRecDepth 100000 in
set_option maxHeartbeats 4000000 in
theorem shortW_in (v0 : Value) (sz : Nat) (hsz : sz ≤ 7) (p : List Int → Bool) (w : World) 
  (hcb : ∀ W B m d rows L, Ev w W → Sl ics 1 W W.heap.size B m d rows → rows ∈ M.incr sz L 0 → Calls Try.prog 82 #[v0, .slice B m d] W fun e w' => e = .returned (.bool (p rows)) ∧ Ev W w') :
  CallsIn Fence.wide 5 Try.prog 83 #[.agg #[v0, .int .i64 sz, .func (.func 82) #[] #[]]] w fun e w' => (∃ B d, e = .returned (.slice B (M.shortest p sz).length d) ∧ Sl ics 1 w' w'.heap.size B (M.shortest p sz).length d (M.shortest p sz)) ∧ Ev w w' := by
 have hdd : ∀ k : Nat, (Fence.wide.depth.isSome = true → 1 ≤ k) := fun k h => by cases h
 have HCB := hid hcb
 clear hcb
 refine callsIn_of_wp_marks Try.func83 rfl trivial ?_ rfl
 simp only [Try.ntmps83, List.size_toArray, List.length_cons, List.length_nil, Nat.reduceAdd, Nat.reduceSub, Array.replicate_succ, Array.replicate_zero, List.push_toArray, List.append_toArray, List.nil_append, List.cons_append]
 gi_wp2
 refine wpIn_wide.2 ?_
 apply wp_scope_straight
 refine (wpIn_wide (n := 5)).1 ?_
 have hal := alloc2 w (.cells #[v0, .int .i64 sz, .func (.func 82) #[] #[]] 124) (.cells #[.slice none 0 0] 25)
 have hE0 : Ev w ((w.alloc (.cells #[v0, .int .i64 sz, .func (.func 82) #[] #[]] 124)).alloc (.cells #[.slice none 0 0] 25)) := Ev.alloc (Ev.alloc (Ev.refl _) _) _
 have HAL := hid hal
 clear hal
 gi_wp2
 refine wpIn_wide.2 ?_
 apply wp_label
 gi_wp2
 generalize hW0 : World.alloc (World.alloc w _) _ = W0 at hE0 HAL
 have Q0 := hid HAL.out.1
 have Q1 := hid HAL.out.2.1
 clear HAL hW0
 refine wpIn_loop (fun a W => ∃ (k : Nat) (Ds : List Nat) (u4 u5 u10 u11 u12 u13 u14 u15 u16 u17 u18 u19 u20 u21 u22 u23 u24 u25 u26 u27 : Value), a = { tmps := #[.agg #[v0, .int .i64 sz, .func (.func 82) #[] #[]], .pointer (some ⟨w.heap.size, 0, none⟩), .slice none 0 0, .pointer (some ⟨w.heap.size + 1, 0, none⟩), u4, u5, .pointer (some ⟨w.heap.size, 1, none⟩), .int .i64 sz, .int .i64 ((sz : Int) + 1), .int .i64 k, u10, u11, u12, u13, u14, u15, u16, u17, u18, u19, u20, u21, u22, u23, u24, u25, u26, u27], defers := marks Ds } ∧ k ≤ sz + 1 ∧ Ev w W ∧
   Hid (W.heap[w.heap.size]? = some (.cells #[v0, .int .i64 sz, .func (.func 82) #[] #[]] 124 (0, 0))) ∧ Hid (W.heap[w.heap.size + 1]? = some (.cells #[.slice none 0 0] 25 (0, 0))) ∧ Ds.Nodup ∧ Hid (∀ D ∈ Ds, w.heap.size + 2 ≤ D ∧ W.heap[D]? = some (.deferred (some []))) ∧ Hid (M.first p sz k (sz + 1 - k) = M.shortest p sz))
  (fun a _ => sz + 1 - (intOf (a.tmps.getD 9 undef)).toNat) ?_ ?_
 ·
  exact ⟨0, [], undef, undef, undef, undef, undef, undef, undef, undef, undef, undef, undef, undef, undef, undef, undef, undef, undef, undef, undef, undef, rfl, by omega, hE0, Q0, Q1, List.nodup_nil, hid (by simp), hid rfl⟩
 ·
  rintro a W ⟨k, Ds, u4, u5, u10, u11, u12, u13, u14, u15, u16, u17, u18, u19, u20, u21, u22, u23, u24, u25, u26, u27, rfl, hk, hE, HS, HB, hnd, HD, HF⟩
  have hws := hE.size
  have hSl := heap_lt HS.out
  have hBl := heap_lt HB.out
  obtain ⟨s0, s1, s2⟩ := cells3 HS.out
  have b0 := cell_in HB.out 0
  simp only [List.getElem?_toArray, List.getElem?_cons_zero] at b0
  by_cases hlt : k < sz + 1
  ·
   have hcl : CallsIn Fence.wide 4 Try.prog 114 #[.int .i64 sz, .int .i64 k] W _ := callsIn_wide.2 (increasing_c sz k W)
   have HCL := hid hcl
   clear hcl
   gi_wp2_with ((try refine ⟨trivial, ?_⟩); (try refine ⟨hdd _, ?_⟩); gi_at_call 114; with_reducible refine HCL.out.mono ?_; clear HCL; rintro e W1 ⟨rfl, hE1, hq1, hq2⟩)
   have hk7 : k ≤ 7 := by omega
   have hz1 := heap_lt hq1
   have hz0 := heap_lt hq2
   have hfb : w.heap.size + 1 < W1.heap.size := by have := hE1.size; omega
   have hBW1 := hE1.heap HB.out
   have hSW1 := hE1.heap HS.out
   have HBW := hid hBW1
   have HSW := hid hSW1
   have hnd1 : (W1.heap.size :: Ds).Nodup := List.nodup_cons.2 ⟨fun hm => by have := heap_lt (HD.out _ hm).2; have := hE1.size; omega, hnd⟩
   have hN : ∀ (B : Nat) (x y : World), W1.heap.size ≤ B → Bar W1.heap.size B x y → Ev W1 x → Ev W1 y := fun B x y hB hb h => Below.trans h (hb.below (Nat.le_refl _) h.size)
   refine rangeX (F := Fence.wide) (n := 5) rfl (by omega) (gf := 131) (lb := #[.pointer (some ⟨W.heap.size + 1, 0, none⟩), .pointer (some ⟨W.heap.size, 0, none⟩)]) rfl trivial (fun args w => Try.call131 args w)
    (incr_seq Fence.wide rfl trivial trivial rfl 4 (W.heap.size + 1) W.heap.size k sz (by omega) (by omega) W1 hq1 hq2) (Below.refl _ _) (fun j hj => by rcases hj with rfl | rfl <;> assumption) (fun _ => rfl) (incH_keep k)
    (fun _ pre X => (∀ x ∈ pre, p x = false) ∧ Ev W1 X)
    (fun B c pre X => c = .exit 0 ∧ ∃ x pre0 v, pre = pre0 ++ [x] ∧ (∀ y ∈ pre0, p y = false) ∧ p x = true ∧ Bar (w.heap.size + 1) (w.heap.size + 2) W1 X ∧ X.heap[w.heap.size + 1]? = some (.cells #[v] 25 (0, 0)) ∧ X.ownsRow B 3 1 v x.length (x.flatMap ics) ∧ x.length ≤ 7)
    (fun _ x a' _ => a' = { tmps := #[Value.agg #[v0, .int .i64 sz, .func (.func 82) #[] #[]], .pointer (some ⟨w.heap.size, 0, none⟩), .slice none 0 0, .pointer (some ⟨w.heap.size + 1, 0, none⟩), .int .i64 k, (.slice (some ⟨W1.heap.size + 2 + 1, 0, none⟩) k k), .pointer (some ⟨w.heap.size, 1, none⟩), .int .i64 sz, .int .i64 ((sz : Int) + 1), .int .i64 k, .bool true, .int .i64 k, .pointer (some ⟨w.heap.size, 1, none⟩), .int .i64 sz, .int .i64 k, .func (.func 131) #[] #[.pointer (some ⟨W.heap.size + 1, 0, none⟩), .pointer (some ⟨W.heap.size, 0, none⟩)], (.slice (some ⟨W1.heap.size + 2 + 1, 0, none⟩) k k), u17, u18, u19, u20, u21, u22, u23, u24, u25, u26, u27], defers := [] })
    (fun B s x y hB h hb => ⟨h.1, hN B x y hB hb h.2⟩)
    (fun c B s x y hB h hb => by
     obtain ⟨rfl, z, pre0, v, h1, h2, h3, h4, h5, h6, h7⟩ := h
     refine ⟨rfl, z, pre0, v, h1, h2, h3, ⟨hb.os.trans h4.os, hb.tape.trans h4.tape, hb.output.trans h4.output, Nat.le_trans h4.size hb.size, fun j hj hn => ?_⟩, ?_, ownsRow_bar h6 hb, h7⟩
     ·
      exact (hb.block j (by have := h4.size; omega) (by omega)).trans (h4.block j hj hn)
     ·
      exact (hb.block _ (heap_lt h5) (by omega)).trans h5)
    (fun a' B s x y hB h hb => h)
    (fun X hX => ⟨by simp, hX⟩) ?assign ?body ?done ?stop
   case assign =>
    intro l B pre x X K hB hBX hI _ hK
    unfold incE
    gi_wp2
    exact hK _ _ (Ev.refl _) rfl
   case body =>
    rintro l B pre x a' X hB hBX ⟨hp, hEX⟩ rfl hh hpre
    obtain ⟨i0, hi, hz0', hz1', hz2'⟩ := info_parts info3
    have hxm : x ∈ M.incr sz k 0 := hpre.subset (by simp)
    have hEw := (hE.trans hE1).trans hEX
    have hsx := hh.2.keep (Below.refl _ X) hBX
    have hcx : CallsIn (Fence.wide.inRound l) 2 Try.prog 82 #[v0, .slice (some ⟨W1.heap.size + 2 + 1, 0, none⟩) k k] X _ := CallsIn.inRound l (callsIn_wide.2 (HCB.out X _ _ _ x k hEw hsx hxm))
    obtain ⟨s0, s1, s2⟩ := cells3 (hEX.heap HSW.out)
    have hxl : x.length = k := hsx.len
    have HCX := hid hcx
    have HSX := hid hsx
    clear hcx hsx
    cases hpx : p x with
    | true =>
     rw [hpx] at HCX
     have HPX := hid hpx
     clear hpx
     gi_wp2_with (first | ((try refine ⟨trivial, ?_⟩); (try refine ⟨hdd _, ?_⟩); gi_at_call 82; with_reducible refine HCX.out.mono ?_; rintro e X1 ⟨rfl, hE3⟩; have hB3 := (hE3.heap (hEX.heap HBW.out)); have b3 := cell_in hB3 0; simp only [List.getElem?_toArray, List.getElem?_cons_zero] at b3) | (gi_at_builtin; refine wpListIn_append_own _ rfl (.tmp 23) (.tmp 24) 25 rfl B 3 i0 _ 1 8 Try.underlying25 hi hz0' hz1' hz2' rfl (by decide) (.slice none 0 0) 0 [] rfl (World.ownsRow_nil _ _ _ _) ⟨W1.heap.size + 2 + 1, 0, none⟩ k k (x.flatMap ics) rfl (by rw [flat_len ics 1 x (fun _ _ => rfl), hxl]) (slice_news (HSX.out.ev hE3)) (ics_one x) (by unfold maxLen; omega) (by omega) (by have := hE3.size; omega) ?_; intro v' X2 hown' hgrow _; obtain ⟨D', d', rfl, hsl'⟩ := Sl.of_own (enc := ics) (sz := 1) (xs := x) (by decide) (fun _ _ => rfl) (by omega) hown'; have hB4 : X2.heap[w.heap.size + 1]? = some (.cells #[.slice none 0 0] 25 (0, 0)) := (hgrow.block _ (heap_lt hB3) (by simp [Value.ownBlock])).trans hB3; have b4 := cell_in hB4 0; have b5 := frozen_in hB4 0; simp only [List.getElem?_toArray, List.getElem?_cons_zero] at b4))
     have hE4 : Ev X X2 := Ev.grown hE3 hgrow (fun k e => by simp [Value.ownBlock] at e)
     rw [List.nil_append] at hown'
     have hown2 : X2.ownsRow B 3 1 (.slice D' k d') x.length (x.flatMap ics) := by rw [hxl]; simpa using hown'
     refine ⟨⟨?_, fun j hj hor => ?_⟩, rfl, x, pre, rfl, hp, HPX.out, ?_, .slice D' k d', by rw [set_heap_same hB4]; rfl, ?_, by omega⟩
     ·
      have := hE4.size
      simpa [World.setCell] using this
     ·
      rcases hor with hf | hor
      ·
       exact hf.elim
      ·
       exact (Below.heap_setCell _ _ _ j (by simp; omega)).trans (hE4.block j hj)
     ·
      exact (Bar.ev (hEX.trans hE4)).trans (Bar.setCell _ (by simp) (by simp))
     ·
      have := ownsRow_setCell_below hown2 (a := ⟨w.heap.size + 1, 0, none⟩) (show w.heap.size + 1 < B by omega) (.slice D' k d')
      simpa using this
    | false =>
     rw [hpx] at HCX
     have HPX := hid hpx
     clear hpx
     gi_wp2_with ((try refine ⟨trivial, ?_⟩); (try refine ⟨hdd _, ?_⟩); gi_at_call 82; with_reducible refine HCX.out.mono ?_; rintro e X1 ⟨rfl, hE3⟩)
     refine ⟨⟨hE3.size, fun j hj _ => hE3.block j hj⟩, fun y hy => ?_, hEX.trans hE3⟩
     rcases List.mem_append.1 hy with hy | hy
     ·
      exact hp y hy
     ·
      rw [show y = x by simpa using hy]; exact HPX.out
   case done =>
    rintro B X hB ⟨hp, hEX⟩ hD
    gi_wp2
    refine ⟨⟨k + 1, W1.heap.size :: Ds, _, _, _, _, _, _, _, _, _, _, _, _, _, _, _, _, _, _, _, _, by rw [show ((k + 1 : Nat) : Int) = (k : Int) + 1 from by omega]; rfl, by omega, (hE.trans hE1).trans hEX, hid (hEX.heap HSW.out), hid (hEX.heap HBW.out), hnd1, hid ?_, hid ?_⟩, by simp [intOf]; omega⟩
    ·
     intro D hDm
     rcases List.mem_cons.1 hDm with rfl | hDm
     ·
      exact ⟨by omega, hD⟩
     ·
      exact ⟨(HD.out D hDm).1, hEX.heap (hE1.heap (HD.out D hDm).2)⟩
    ·
     rw [← HF.out, show sz + 1 - k = (sz + 1 - (k + 1)) + 1 from by omega]
     have hfn : (M.incr sz k 0).find? p = none := List.find?_eq_none.2 (fun x hx => by rw [hp x hx]; decide)
     conv => rhs; unfold M.first
     rw [hfn]
   case stop =>
    rintro B c pre X hB hpre ⟨rfl, x, pre0, v, rfl, hp, hpx, hbar, hbx, hown, hx7⟩ hD
    obtain ⟨D', d', rfl, hsl'⟩ := Sl.of_own (enc := ics) (sz := 1) (xs := x) (by decide) (fun _ _ => rfl) (by omega) hown
    have b5 := cell_in hbx 0
    simp only [List.getElem?_toArray, List.getElem?_cons_zero] at b5
    gi_wp2
    have hfn : (M.incr sz k 0).find? p = some x := by
     obtain ⟨r, hr⟩ := hpre
     rw [← hr, List.append_assoc, List.find?_append, List.find?_eq_none.2 (fun y hy => by rw [hp y hy]; decide)]
     simp [hpx]
    have hxs : M.shortest p sz = x := by
     rw [← HF.out, show sz + 1 - k = (sz + 1 - (k + 1)) + 1 from by omega]
     unfold M.first
     rw [hfn]
    show LeavesInM Fence.wide 5 Try.prog Try.f83 _ _ (marks (W1.heap.size :: Ds)) .returning X
    have hEb : Below w.heap.size w X := Below.trans (hE.trans hE1) (hbar.below (by omega) (by have := (hE.trans hE1).size; omega))
    refine leaves_marks (A := w.heap.size) (W1.heap.size :: Ds) X hnd1 (fun D hDm => ?_) (fun w' hb' hk' => ?_)
    ·
     rcases List.mem_cons.1 hDm with rfl | hDm
     ·
      exact ⟨by omega, hD⟩
     ·
      obtain ⟨h1, h2⟩ := HD.out D hDm
      exact ⟨by omega, (hbar.block D (heap_lt (hE1.heap h2)) (by omega)).trans (hE1.heap h2)⟩
    ·
     have hnm : ∀ (j : Nat) (o : Obj), X.heap[j]? = some o → o.isCells = true → w'.heap[j]? = some o := fun j o ho hc => by
      refine (hk' j (fun hm => ?_)).trans ho
      have : X.heap[j]? = some (.deferred (some [])) := by
       rcases List.mem_cons.1 hm with rfl | hm
       ·
        exact hD
       ·
        obtain ⟨h1, h2⟩ := HD.out j hm
        exact (hbar.block j (heap_lt (hE1.heap h2)) (by omega)).trans (hE1.heap h2)
      rw [this] at ho
      cases ho
      cases hc
     obtain ⟨D2, d2, he2, hsl2⟩ := Sl.of_own (enc := ics) (sz := 1) (xs := x) (by decide) (fun _ _ => rfl) (by omega) (ownsRow_cells hown hnm)
     refine ⟨_, results_tmp rfl _ _ _, ⟨D2, d2, ?_, ?_⟩, Below.trans hEb hb'⟩
     ·
      rw [hxs, ← he2]; rfl
     ·
      rw [hxs]; exact hsl2
  ·
   have hks : k = sz + 1 := by omega
   subst hks
   have hF := HF.out
   rw [Nat.sub_self] at hF
   have HFF := hid hF
   clear hF
   gi_wp2
   show LeavesInM Fence.wide 5 Try.prog Try.f83 _ _ (marks Ds) .returning W
   refine leaves_marks (A := w.heap.size) Ds W hnd (fun D hDm => ⟨by have := (HD.out D hDm).1; omega, (HD.out D hDm).2⟩) (fun w' hb' _ => ?_)
   refine ⟨_, results_tmp rfl _ _ _, ⟨none, 0, ?_, ?_⟩, Below.trans hE hb'⟩
   ·
    rw [← HFF.out]; rfl
   ·
    rw [← HFF.out]; exact ⟨rfl, Nat.le_refl _, by simp [M.first], fun h => by simp [M.first] at h⟩

/-- From the least number to the greatest one. -/
def M.span : List Int → M.Rg
 | [] => ⟨0, 0⟩
 | x :: xs => ⟨M.least x xs, M.most x xs⟩
set_option maxRecDepth 100000 in
set_option maxHeartbeats 2000000 in
theorem span_c (A : Option Addr) (m d : Nat) (x : Int) (xs : List Int) (w : World) (hs : Sl ics 1 w w.heap.size A (m + 1) d (x :: xs)) :
  Calls Try.prog 103 #[.slice A (m + 1) d] w fun e w' => e = .returned (.agg #[.int .i64 (M.least x xs), .int .i64 (M.most x xs)]) ∧ Ev w w' := by
 obtain ⟨b, off, hA, hb, hc⟩ := hs.cells (by omega)
 subst hA
 obtain ⟨T, t1, t2, hsT⟩ := tail1 hs
 have hcap := hs.cap
 have e0 := hc 0 x rfl 0 _ rfl
 simp only [Nat.zero_mul, Nat.add_zero] at e0
 have HL := hid (fun W (hE : Ev w W) => least_c x T m (d - 1) xs W (hsT.ev hE))
 have HM := hid (fun W (hE : Ev w W) => most_c (some ⟨b, off, none⟩) (m + 1) d x xs W (hs.ev hE))
 have m0 : (0 : Int) < (m : Int) + 1 := by omega
 generalize M.least x xs = lo at HL
 generalize M.most x xs = hi at HM
 clear hs hc hsT
 go_enter Try.func103, Try.ntmps103
 go_upto_region 1 with fail
 generalize hW0 : World.alloc w _ = W0
 have hE0 : Ev w W0 := by rw [← hW0]; exact Ev.alloc (Ev.refl _) _
 have hal := alloc1 w (.cells #[.int .i64 0, .int .i64 0] 36)
 rw [hW0] at hal
 have Q0 := hid hal.1
 have y0 := (hE0.cells.1 b off hb).trans e0
 have lb : b < W0.heap.size := by have := hE0.size; omega
 clear hal hW0 e0
 have HSE : Hid (∀ w', Ev W0 w' → (∀ o, w'.cell? ⟨b, o, none⟩ = W0.cell? ⟨b, o, none⟩)) := hid (fun w' h => fun o => h.cells.1 _ o lb)
 refine wp_region_held_drew (S := fun w' => (∀ o, w'.cell? ⟨b, o, none⟩ = W0.cell? ⟨b, o, none⟩)) (by kernel_rfl) (fun o => rfl) (fun hHeld => ?_)
 refine tkH 0 (some 3) ?_
 (try simp only [Act.put, sA, sB, sC])
 refine tkH 1 (some 4) ?_
 (try simp only [Act.put, sA, sB, sC])
 refine tkH 2 (some 5) ?_
 (try simp only [Act.put, sA, sB, sC])
 refine tkH 3 (some 6) ?_
 (try simp only [Act.put, sA, sB, sC])
 refine tkH 4 (some 7) ?_
 (try simp only [Act.put, sA, sB, sC])
 refine tkH 6 (some 9) ?_
 (try simp only [Act.put, sA, sB, sC])
 refine wpAnyH_one (i := 5) rfl (by kernel_rfl) (by rfl) (fun K hK => ?_)
 go_simp
 refine (HL.out _ (hE0.trans (Ev.drew (Ev.refl _)))).mono ?_
 rintro e w1 ⟨rfl, hb1⟩
 have hE1 : Ev W0 w1 := Ev.trans (Ev.drew (Ev.refl _)) hb1
 refine hK.out _ _ (HSE.out _ hE1) (fun hHeld => ?_)
 clear hK K
 (try simp only [Act.put, List.setIfInBounds_toArray, List.set_cons_zero, List.set_cons_succ])
 refine wpAnyH_one (i := 7) rfl (by kernel_rfl) (by rfl) (fun K hK => ?_)
 go_simp
 refine (HM.out _ (hE0.trans hE1)).mono ?_
 rintro e w2 ⟨rfl, hb2⟩
 have hE2 : Ev W0 w2 := hE1.trans hb2
 refine hK.out _ _ (HSE.out _ hE2) (fun hHeld => ?_)
 clear hK K
 (try simp only [Act.put, List.setIfInBounds_toArray, List.set_cons_zero, List.set_cons_succ])
 refine tkH 8 (some 11) ?_
 (try simp only [Act.put, sA, sB, sC])
 have hq2 := hE2.heap Q0.out
 obtain ⟨g0, g1⟩ := cells2 hq2
 obtain ⟨f0, f1⟩ := frz2 hq2
 have HQ2 := hid hq2
 clear hq2
 refine wpAnyH_one (i := 9) rfl (by kernel_rfl) (by rfl) (fun K hK => ?_)
 go_simp
 have hF : ((w2.setCell ⟨w.heap.size, 0, none⟩ (.int .i64 lo)).setCell ⟨w.heap.size, 1, none⟩ (.int .i64 hi)).heap[w.heap.size]? = some (.cells #[.int .i64 lo, .int .i64 hi] 36 (0, 0)) := by
  rw [set_heap_same (set_heap_same HQ2.out)]; rfl
 have HF := hid hF
 clear hF
 refine hK.out _ _ (fun o => (cell_set_ne (by simp; omega)).trans ((cell_set_ne (by simp; omega)).trans (HSE.out _ hE2 o))) (fun hHeld => ?_)
 clear hK K
 (try simp only [Act.put, List.setIfInBounds_toArray, List.set_cons_zero, List.set_cons_succ])
 refine wpAnyH_done (by kernel_rfl) ?_ _
 go_wp2_with fail
 obtain ⟨d0, d1⟩ := cells2 HF.out
 refine bodyPost_ret (v := .agg #[.int .i64 lo, .int .i64 hi]) (by simp [results, Try.results103, go_sem, d0, d1]) rfl ⟨rfl, ?_⟩
 exact Ev.setCell (Ev.setCell (hE0.trans hE2) (by simp) _) (by simp) _
theorem spanL_c (A : Option Addr) (n d : Nat) (l : List Int) (w : World) (hn : 0 < n) (hs : Sl ics 1 w w.heap.size A n d l) :
  Calls Try.prog 103 #[.slice A n d] w fun e w' => e = .returned (.agg #[.int .i64 (M.span l).lo, .int .i64 (M.span l).hi]) ∧ Ev w w' := by
 have hl := hs.len
 match l, hl with
 | x :: xs, hl =>
  obtain rfl : n = xs.length + 1 := by rw [← hl]; rfl
  exact span_c A xs.length d x xs w hs
 | [], hl => simp at hl; omega
theorem Mo.grown {mb : Nat} {a b c : World} {row : Option Nat} (h : Mo mb a b) (hg : b.grownBy c row) (hr : ∀ q, row = some q → a.heap.size ≤ q) : Mo mb a c :=
 ⟨hg.os.trans h.os, hg.tape.trans h.tape, hg.output.trans h.output, Nat.le_trans h.size hg.size, fun k hk hn => (hg.block k (Nat.lt_of_lt_of_le hk h.size) (fun e => by have := hr k e.symm; omega)).trans (h.block k hk hn)⟩
theorem own_neB {w : World} {base : Nat} {e t : TypeId} {size : Nat} {v : Value} {n : Nat} {xs : List Value} (h : w.ownsRow base e size v n xs) {b : Nat} {cs : Array Value} {z : Nat × Nat} (hb : w.heap[b]? = some (.cells cs t z)) (ht : t ≠ e) : some b ≠ v.ownBlock := fun q => by
 obtain ⟨c, hc⟩ := own_block_type h q.symm
 rw [hb] at hc
 cases hc
 exact ht rfl
theorem map_neB {P : Program} {kt : TypeId} {w : World} {mb : Nat} {g : Value → Option Value} (hm : MapIs P kt w mb g) {base : Nat} {e : TypeId} {size : Nat} {v : Value} {n : Nat} {xs : List Value} (h : w.ownsRow base e size v n xs) : some mb ≠ v.ownBlock := fun q => by
 obtain ⟨c, hc⟩ := own_block_type h q.symm
 exact map_ne hm hc rfl
theorem zeros_two : ∀ D : Nat, madeCells (Value.agg #[.int .i64 0, .int .i64 0]).cells (D * 2) = ((List.replicate D (⟨0, 0⟩ : M.Rg)).flatMap rgc).toArray := by
 intro D
 have h : ∀ D : Nat, ((List.replicate D (⟨0, 0⟩ : M.Rg)).flatMap rgc) = List.replicate (D * 2) (Value.int .i64 0) := by
  intro D
  induction D with
  | zero => rfl
  | succ D ih =>
   rw [List.replicate_succ, List.flatMap_cons, ih, show (D + 1) * 2 = D * 2 + 1 + 1 from by omega]
   simp [rgc, List.replicate_succ]
 rw [h D]
 unfold madeCells
 apply Array.ext
 ·
  simp
 ·
  intro i h1 h2
  have h3 : i % 2 < 2 := Nat.mod_lt _ (by omega)
  have h4 : ∀ j : Nat, j < 2 → (Value.agg #[.int .i64 0, .int .i64 0]).cells.getD j default = .int .i64 0 := by
   intro j hj
   match j, hj with
   | 0, _ => rfl
   | 1, _ => rfl
  simp [Value.cells] at h4 ⊢
  first | exact h4 _ h3 | (have := h4 _ h3; simpa using this)
theorem makeRg (L : Nat) (hL : L ≤ 100) (wx : World) : (Instr.makeSlice 37 (.int .i64 L) (.int .i64 L)).run Try.prog wx = .ok (.slice (some ⟨wx.heap.size, 0, none⟩) L L) (wx.alloc (.cells ((List.replicate L (⟨0, 0⟩ : M.Rg)).flatMap rgc).toArray 36)) := by
 obtain ⟨i0, hi, hz0, hz1, hz2⟩ := info_parts info55
 have := run_makeSlice wx 37 36 i0 _ Try.underlying37 hi hz0 .i64 .i64 L L (by omega) (by omega) (by rw [hz1]; omega) (by rw [hz2]; omega) (by omega)
 rw [hz1, Int.toNat_natCast, zeros_two L] at this
 exact this
/-- The heats of an hour in some truths; the bounds of all hours. -/
def M.at (f : M.Cf) (ts : List M.Tr) (plan : List Int) (i : Nat) : List Int := ts.map fun t => (M.heats f t plan).getD i 0
def M.bounds (f : M.Cf) (ts : List M.Tr) (plan : List Int) : List M.Rg := (List.range f.wet.length).map fun i => M.span (M.at f ts plan i)

set_option maxRecDepth 100000 in
set_option maxHeartbeats 2000000 in
theorem play_w (f : M.Cf) (Aw At Ar : Option Addr) (nw cw nt ct nr cr : Nat) (Ts Ss : Option Addr) (ns cs ms ds p mb : Nat) (Tw : Option Addr) (tw twc : Nat) (t : M.Tr) (P : Option Addr) (pn pc : Nat) (plan : List Int) (b0 : Nat) (ts : List M.Tr) (ss : List (List Int)) (h0 : M.check f = 0) (htr : M.listed f t = true) (w : World) (hw : Wc w f Aw At Ar nw cw nt ct nr cr Ts Ss ns cs ms ds p mb b0 ts ss)
  (hwt : Sl ics 1 w w.heap.size Tw tw twc t.wet) (hp : Sl ics 1 w w.heap.size P pn pc plan) :
  Calls Try.prog 68 #[.pointer (some ⟨p, 0, none⟩), .agg #[.int .i64 t.st, .slice Tw tw twc], .slice P pn pc] w fun e w' => e = .returned (sv (M.heats f t plan)) ∧ Wc w' f Aw At Ar nw cw nt ct nr cr Ts Ss ns cs ms ds p mb b0 ts ss ∧ Mo mb w w' := by
 obtain ⟨hl9, _, hv, _⟩ := M.check0 h0
 obtain ⟨g, hgl, hm⟩ := hw.mp
 refine (play_c f Aw At Ar nw cw nt ct nr cr Ts Ss ns cs ms ds p mb Tw tw twc t P pn pc plan hv hl9 htr g hgl w hw.hd hm hwt hp).mono ?_
 rintro e w' ⟨h1, h2, h3⟩
 exact ⟨h1, hw.mo h3 h2, h3⟩

set_option maxRecDepth 100000 in
set_option maxHeartbeats 4000000 in
theorem plays_c (f : M.Cf) (Aw At Ar : Option Addr) (nw cw nt ct nr cr : Nat) (Ts Ss : Option Addr) (ns cs ms ds p mb : Nat) (P : Option Addr) (pn pc : Nat) (plan : List Int) (b0 : Nat) (ts : List M.Tr) (ss : List (List Int)) (h0 : M.check f = 0) (hts : ∀ t ∈ ts, M.listed f t = true) (w : World) (hw : Wc w f Aw At Ar nw cw nt ct nr cr Ts Ss ns cs ms ds p mb b0 ts ss) (hp : Sl ics 1 w w.heap.size P pn pc plan) :
  Calls Try.prog 102 #[.pointer (some ⟨p, 0, none⟩), .slice P pn pc] w fun e w' => (∃ B d, e = .returned (.slice B ns d) ∧ w'.ownsRow w.heap.size 109 10 (.slice B ns d) ns ((ts.map fun t => M.heats f t plan).flatMap scs)) ∧ Wc w' f Aw At Ar nw cw nt ct nr cr Ts Ss ns cs ms ds p mb b0 ts ss ∧ Mo mb w w' := by
 obtain ⟨i0, hi0, hz0, hz1, hz2⟩ := info_parts infoWt
 obtain ⟨k0, k1, k2, k3, k4, k5, k6, k7, k8, k9, k10, k11, k12⟩ := cells13 hw.hd
 obtain ⟨g0, hgl0, hm0⟩ := hw.mp
 have hml := hm0.lt
 have hn1 := hw.n1
 have hpw := heap_lt hw.hd
 have htl := hw.len
 have HPW := hid (fun (Tw : Option Addr) (tw twc : Nat) (t : M.Tr) (ht : t ∈ ts) W (hW : Wc W f Aw At Ar nw cw nt ct nr cr Ts Ss ns cs ms ds p mb b0 ts ss) h2 h3 => play_w f Aw At Ar nw cw nt ct nr cr Ts Ss ns cs ms ds p mb Tw tw twc t P pn pc plan b0 ts ss h0 (hts t ht) W hW h2 h3)
 have hln : ∀ t ∈ ts, (M.heats f t plan).length = 10 := fun t ht => by
  have h1 := M.listed_bd (M.check0 h0).2.2.1 (hts t ht)
  have h2 := M.valid_parts (M.check0 h0).2.2.1
  have h3 := (M.check0 h0).1
  exact M.heats_len (by omega)
 have HLN := hid hln
 have HTL := hid htl
 have HM0 := hid hm0
 have HWC := hid hw
 have HG0 := hid hgl0
 clear hw hm0 h0 hts hln htl hgl0
 go_enter Try.func102, Try.ntmps102
 go_wp2_with fail
 go_loopw [5, 13] (fun v i wr => ∃ k : Nat, ∃ V : Option Addr, ∃ dd : Nat, v = .slice V k dd ∧ i = .int .i64 k ∧ k ≤ ns ∧ Mo mb w wr ∧ (∃ g', Loads f g' ∧ MapIs Try.prog 139 wr mb g') ∧ wr.ownsRow w.heap.size 109 10 (.slice V k dd) k (((ts.take k).map fun t => M.heats f t plan).flatMap scs)) (fun _ i _ => ns - (intOf i).toNat)
 case atStart => exact ⟨0, none, 0, rfl, rfl, by omega, Mo.refl _ _, ⟨g0, HG0.out, HM0.out⟩, World.ownsRow_nil _ _ _ _⟩
 case round =>
  obtain ⟨k, V, dd, rfl, rfl, hk, hB, hmp, hown⟩ := hrel
  obtain ⟨WO, hWO⟩ : ∃ x, x = wr := ⟨_, rfl⟩
  subst hWO
  have HW1 := hid (HWC.out.mo hB hmp)
  have hBs := hB.size
  by_cases hlt : k < ns
  ·
   obtain ⟨us, huo, hrs⟩ := HW1.out.tr
   have hus := sl_own (enc := thc) (by decide) (thc_len us) (by omega) huo
   obtain ⟨b, off, v, rfl, hb, hx, hd, hcc⟩ := hus.at_ (Below.refl _ _) hlt
   have e0 := hcc 0 _ rfl
   have e1 := hcc 1 _ rfl
   simp only [Nat.add_zero] at e0
   have hcap := hus.cap
   have htk : ts[k]? = some (ts[k]'(by rw [HTL.out]; exact hlt)) := List.getElem?_eq_getElem _
   generalize ts[k]'(by rw [HTL.out]; exact hlt) = t at htk
   have htm := List.mem_of_getElem? htk
   obtain ⟨r1, r2, r3⟩ := hrs.2 k v t hx htk
   have hE2 : Ev WO (WO.alloc (.cells #[.int .i64 v.1, .slice v.2.1 v.2.2.1 v.2.2.2] 42)) := Ev.alloc (Ev.refl _) _
   have hl10 := HLN.out t htm
   obtain ⟨a0, a1, a2, a3, a4, a5, a6, a7, a8, a9, hwt⟩ := list10 hl10
   have hcon := HPW.out v.2.1 v.2.2.1 v.2.2.2 t htm _ (HW1.out.ev hE2) ((sl_own (enc := ics) (by decide) (ics_len _) (by omega) r2).ev hE2) ((hp.mo HM0.out hB (Nat.le_refl _) hB.size).ev hE2)
   rw [hwt, ← r1] at hcon
   simp only [sv, List.map_cons, List.map_nil] at hcon
   have HP2 := hid hcon
   obtain ⟨g1, hg1, hmg⟩ := hmp
   have HMX := hid (hmg.keep hE2 hmg.lt)
   have HO1 := hid (hown.ev hE2)
   have HTK := hid (show (((ts.take (k + 1)).map fun t => M.heats f t plan).flatMap scs) = ((ts.take k).map fun t => M.heats f t plan).flatMap scs ++ [.int .i64 a0, .int .i64 a1, .int .i64 a2, .int .i64 a3, .int .i64 a4, .int .i64 a5, .int .i64 a6, .int .i64 a7, .int .i64 a8, .int .i64 a9] by rw [List.take_add_one, htk, List.map_append, List.flatMap_append]; simp [hwt, scs])
   have hB2 := hid (hB.trans (Mo.ev hE2))
   have HOV := hid (fun q e => (hown.lt q e).1 : ∀ q, (Value.slice V k dd).ownBlock = some q → w.heap.size ≤ q)
   clear hx hd hcc hus huo hrs r1 r2 htk hmg hown hcon hwt hl10
   go_wp2_with (first | (go_at_call 68; refine HP2.out.mono ?_; rintro e w3 ⟨rfl, hw3, hm3⟩; have hs3 := hm3.size; simp only [World.alloc, Array.size_push] at hs3) | (at_builtin; refine wpList_append_own_at _ rfl (.tmp 17) (.tmp 22) 134 rfl w.heap.size 109 i0 _ 10 80 Try.underlying134 hi0 hz0 hz1 hz2 rfl (by decide) _ k (((ts.take k).map fun t => M.heats f t plan).flatMap scs) rfl ((own_mo HO1.out HMX.out hm3).alloc _) ⟨w3.heap.size, 0, none⟩ 1 1 [.int .i64 a0, .int .i64 a1, .int .i64 a2, .int .i64 a3, .int .i64 a4, .int .i64 a5, .int .i64 a6, .int .i64 a7, .int .i64 a8, .int .i64 a9] rfl rfl (news_in (alloc1 w3 _).1) (by simp [Value.oneCell']) (by unfold maxLen; omega) (by omega) (by simp; omega) ?_; intro v' w5 hown' hgrow _ _; obtain ⟨V', d', rfl⟩ := own_form hown'; have HO3 := hid hown'; have HGR := hid hgrow; have HW3 := hid hw3; have HM3 := hid hm3; clear hown' hgrow hw3 hm3))
   have hE4 : Ev w3 (w3.alloc (.cells #[.int .i64 a0, .int .i64 a1, .int .i64 a2, .int .i64 a3, .int .i64 a4, .int .i64 a5, .int .i64 a6, .int .i64 a7, .int .i64 a8, .int .i64 a9] 109)) := Ev.alloc (Ev.refl _) _
   have hoA := (own_mo HO1.out HMX.out HM3.out).ev hE4
   obtain ⟨g', hg', hm'⟩ := HW3.out.mp
   have hmA := hm'.keep hE4 hm'.lt
   refine ⟨⟨k + 1, V', d', rfl, by go_num, by omega, ((hB2.out.trans HM3.out).trans (Mo.ev hE4)).grown HGR.out HOV.out, ⟨g', hg', hmA.same (HGR.out.block mb hmA.lt (map_neB hmA hoA))⟩, by rw [HTK.out]; exact HO3.out⟩, by simp [intOf]; omega⟩
  ·
   obtain rfl : k = ns := by omega
   rw [List.take_of_length_le (by rw [HTL.out]; exact Nat.le_refl _)] at hown
   have HO := hid hown
   clear hown
   go_wp2
   go_ret
   exact ⟨⟨V, dd, rfl, HO.out⟩, HW1.out, hB⟩

set_option maxRecDepth 100000 in
set_option maxHeartbeats 4000000 in
theorem bounds_c (f : M.Cf) (Aw At Ar : Option Addr) (nw cw nt ct nr cr : Nat) (Ts Ss : Option Addr) (ns cs ms ds p mb : Nat) (P : Option Addr) (pn pc : Nat) (plan : List Int) (b0 : Nat) (ts : List M.Tr) (ss : List (List Int)) (h0 : M.check f = 0) (hne : 0 < ns) (hts : ∀ t ∈ ts, M.listed f t = true) (w : World) (hw : Wc w f Aw At Ar nw cw nt ct nr cr Ts Ss ns cs ms ds p mb b0 ts ss) (hp : Sl ics 1 w w.heap.size P pn pc plan) :
  Calls Try.prog 75 #[.pointer (some ⟨p, 0, none⟩), .slice P pn pc] w fun e w' => (∃ B d, e = .returned (.slice B nw d) ∧ Sl rgc 2 w' w'.heap.size B nw d (M.bounds f ts plan)) ∧ Wc w' f Aw At Ar nw cw nt ct nr cr Ts Ss ns cs ms ds p mb b0 ts ss ∧ Mo mb w w' := by
 obtain ⟨i0, hi0, hz0, hz1, hz2⟩ := info_parts info3
 obtain ⟨k0, k1, k2, k3, k4, k5, k6, k7, k8, k9, k10, k11, k12⟩ := cells13 hw.hd
 have hpw := heap_lt hw.hd
 have hn1 := hw.n1
 have hnw : (nw : Int) = f.last + 1 := by
  have := hw.fd.w_.len
  have := M.valid_parts (M.check0 h0).2.2.1
  omega
 have hwl : f.wet.length = nw := hw.fd.w_.len
 have hnw10 : nw ≤ 10 := by have := (M.check0 h0).1; omega
 have s0 : IntKind.i64.wrap (f.last + 1) = (nw : Int) := by rw [← hnw]; exact IntWalk.i64_in _ (by omega)
 have HPY := hid (plays_c f Aw At Ar nw cw nt ct nr cr Ts Ss ns cs ms ds p mb P pn pc plan b0 ts ss h0 hts w hw hp)
 have hln : ∀ t ∈ ts, (M.heats f t plan).length = 10 := fun t ht => by
  have h1 := M.listed_bd (M.check0 h0).2.2.1 (hts t ht)
  have h2 := M.valid_parts (M.check0 h0).2.2.1
  have h3 := (M.check0 h0).1
  exact M.heats_len (by omega)
 have HLN := hid hln
 have HTL := hid hw.len
 have HWLN := hid hwl
 have hmk := fun wx => makeRg nw (by omega) wx
 clear hw hp h0 hts hln hwl hnw
 go_enter Try.func75, Try.ntmps75
 go_upto_region 4 with (first | (go_at_call 102; with_reducible refine HPY.out.mono ?_; rintro e w1 ⟨⟨B0, d0, rfl, hpl0⟩, hw1, hm1⟩; clear k0 k1 k2 k3 k4 k5 k6 k7 k8 k9 k10 k11 k12; obtain ⟨k0, k1, k2, k3, k4, k5, k6, k7, k8, k9, k10, k11, k12⟩ := cells13 hw1.hd))
 have hpsl : Sl scs 10 w1 w1.heap.size B0 ns d0 (ts.map fun t => M.heats f t plan) := sl_own (by decide) (fun x hx => by
  obtain ⟨t, ht, rfl⟩ := List.mem_map.1 hx
  simpa [scs] using HLN.out t ht) (by omega) hpl0
 have HPS := hid hpsl
 have QX := hid (alloc1 w1 (.cells ((List.replicate nw (⟨0, 0⟩ : M.Rg)).flatMap rgc).toArray 36)).1
 have hEX : Ev w1 (w1.alloc (.cells ((List.replicate nw (⟨0, 0⟩ : M.Rg)).flatMap rgc).toArray 36)) := Ev.alloc (Ev.refl _) _
 have hpcap := hpsl.cap
 clear hpl0 hpsl k0 k1 k2 k3 k4 k5 k6 k7 k8 k9 k10 k11 k12
 go_loopw [23] (fun i wr => ∃ j : Nat, ∃ ys : List M.Rg, i = .int .i64 j ∧ j ≤ nw ∧ Ev w1 wr ∧ Hid (wr.heap[w1.heap.size]? = some (.cells (ys.flatMap rgc).toArray 36 (0, 0))) ∧ ys.length = nw ∧ Hid (ys.take j = (M.bounds f ts plan).take j)) (fun i _ => nw - (intOf i).toNat)
 case atStart => exact ⟨0, List.replicate nw ⟨0, 0⟩, rfl, by omega, hEX, QX, by simp, hid rfl⟩
 case round =>
  obtain ⟨j, ys, rfl, hj, hC, hX, hyl, hT⟩ := hrel
  obtain ⟨WO, hWO⟩ : ∃ x, x = wr := ⟨_, rfl⟩
  subst hWO
  have hXl := heap_lt hX.out
  by_cases hltj : j < nw
  ·
   have j0 : (0 : Int) ≤ j := by omega
   have j10 : (j : Int) < 10 := by omega
   have jp : (j : Int) < nw := by omega
   have HBJ := hid (show (M.bounds f ts plan)[j]? = some (M.span (M.at f ts plan j)) by
    unfold M.bounds
    rw [List.getElem?_map, List.getElem?_range (by rw [HWLN.out]; exact hltj)]; rfl)
   go_upto_region 8 with fail
   go_loopw [8, 28] (fun v i wr => ∃ k : Nat, ∃ V : Option Addr, ∃ dd : Nat, v = .slice V k dd ∧ i = .int .i64 k ∧ k ≤ ns ∧ Ev WO wr ∧ wr.ownsRow WO.heap.size 3 1 (.slice V k dd) k (((M.at f ts plan j).take k).flatMap ics)) (fun _ i _ => ns - (intOf i).toNat)
   case atStart => exact ⟨0, none, 0, rfl, rfl, by omega, Ev.refl _, World.ownsRow_nil _ _ _ _⟩
   case round =>
    obtain ⟨k, V, dd, rfl, rfl, hk, hD, hown⟩ := hrel
    have hDs := hD.size
    by_cases hlt : k < ns
    ·
     obtain ⟨b, off, xl, rfl, hb, hx, hd, hcc⟩ := HPS.out.at_ (hC.trans hD) hlt
     have hmem := List.mem_of_getElem? hx
     have hxl : xl.length = 10 := by
      obtain ⟨t, ht, rfl⟩ := List.mem_map.1 hmem
      exact HLN.out t ht
     have HAT := hid (show (M.at f ts plan j)[k]? = some (xl.getD j 0) by
      unfold M.at
      rw [List.getElem?_map] at hx ⊢
      cases htk : ts[k]? with
      | none => rw [htk] at hx; simp at hx
      | some t => rw [htk] at hx; simp at hx; rw [← hx]; rfl)
     have hjx : xl[j]? = some (xl.getD j 0) := by rw [List.getD_eq_getElem?_getD, List.getElem?_eq_getElem (by omega)]; rfl
     obtain ⟨a0, a1, a2, a3, a4, a5, a6, a7, a8, a9, rfl⟩ := list10 hxl
     have e0 := hcc 0 _ rfl
     have e1 := hcc 1 _ rfl
     have e2 := hcc 2 _ rfl
     have e3 := hcc 3 _ rfl
     have e4 := hcc 4 _ rfl
     have e5 := hcc 5 _ rfl
     have e6 := hcc 6 _ rfl
     have e7 := hcc 7 _ rfl
     have e8 := hcc 8 _ rfl
     have e9 := hcc 9 _ rfl
     simp only [Nat.add_zero] at e0
     generalize [a0, a1, a2, a3, a4, a5, a6, a7, a8, a9].getD j 0 = y at HAT hjx
     have hja : (#[.int .i64 a0, .int .i64 a1, .int .i64 a2, .int .i64 a3, .int .i64 a4, .int .i64 a5, .int .i64 a6, .int .i64 a7, .int .i64 a8, .int .i64 a9] : Array Value)[j]? = some (.int .i64 y) := by
      have : (#[.int .i64 a0, .int .i64 a1, .int .i64 a2, .int .i64 a3, .int .i64 a4, .int .i64 a5, .int .i64 a6, .int .i64 a7, .int .i64 a8, .int .i64 a9] : Array Value) = ([a0, a1, a2, a3, a4, a5, a6, a7, a8, a9].map (Value.int .i64)).toArray := rfl
      rw [this]; simp only [List.getElem?_toArray, List.getElem?_map, hjx]; rfl
     have HJA := hid hja
     have HTK := hid (show ((M.at f ts plan j).take (k + 1)).flatMap ics = ((M.at f ts plan j).take k).flatMap ics ++ [.int .i64 y] by rw [List.take_add_one, HAT.out, List.flatMap_append]; rfl)
     have HO1 := hid hown
     have k0' : (0 : Int) ≤ k := by omega
     have kn : (k : Int) < ns := by omega
     clear hx hd hcc hmem hxl hjx hja hown
     go_upto_region 10 with fail
     generalize hW0 : World.alloc wr _ = W0
     have hE0 : Ev wr W0 := by rw [← hW0]; exact Ev.alloc (Ev.refl _) _
     have hal := (alloc1 wr (.cells #[.int .i64 a0, .int .i64 a1, .int .i64 a2, .int .i64 a3, .int .i64 a4, .int .i64 a5, .int .i64 a6, .int .i64 a7, .int .i64 a8, .int .i64 a9] 109)).1
     rw [hW0] at hal
     have c0 := (cell_in hal j).trans HJA.out
     have lc := heap_lt hal
     have hE0s := hE0.size
     clear hW0 hal e0 e1 e2 e3 e4 e5 e6 e7 e8 e9
     go_wp2_with (at_builtin; refine wpList_append_own_at _ rfl (.tmp 32) (.tmp 36) 25 rfl WO.heap.size 3 i0 _ 1 8 Try.underlying25 hi0 hz0 hz1 hz2 rfl (by decide) _ k (((M.at f ts plan j).take k).flatMap ics) rfl ((HO1.out.ev hE0).alloc _) ⟨W0.heap.size, 0, none⟩ 1 1 [.int .i64 y] rfl rfl (news_in (alloc1 W0 _).1) (by simp [Value.oneCell']) (by unfold maxLen; omega) (by omega) (by simp; omega) ?_; intro v' w5 hown' hgrow _ _; obtain ⟨V', d', rfl⟩ := own_form hown'; have HO3 := hid hown'; have HE3 := hid (Ev.grown ((hD.trans hE0).alloc (.cells #[.int .i64 y] 3)) hgrow (fun q e => (HO1.out.lt q e).1) : Ev WO w5); clear hown' hgrow)
     exact ⟨⟨k + 1, V', d', rfl, by go_num, by omega, HE3.out, by rw [HTK.out]; exact HO3.out⟩, by simp [intOf]; omega⟩
    ·
     obtain rfl : k = ns := by omega
     rw [List.take_of_length_le (by unfold M.at; rw [List.length_map, HTL.out]; exact Nat.le_refl _)] at hown
     have HSP := hid (spanL_c V k dd (M.at f ts plan j) wr hne (sl_own (by decide) (ics_len _) (by omega) hown))
     have HXr := hid (hD.heap hX.out)
     generalize M.span (M.at f ts plan j) = sp at HSP HBJ
     clear hown
     go_upto_region 13 with (first | (go_at_call 103; with_reducible refine HSP.out.mono ?_; rintro e w6 ⟨rfl, hb6⟩; have HX6 := hid (hb6.heap HXr.out); obtain ⟨⟨u0, hu0⟩, u1, hu1⟩ := pair_get ys j (by omega); have x0 : w6.cell? ⟨w1.heap.size, j * 2, none⟩ = some (.int .i64 u0) := (cell_in HX6.out _).trans (by rw [List.getElem?_toArray]; exact hu0); have x1 : w6.cell? ⟨w1.heap.size, j * 2 + 1, none⟩ = some (.int .i64 u1) := (cell_in HX6.out _).trans (by rw [List.getElem?_toArray]; exact hu1); have f0 := frozen_in HX6.out (j * 2); have f1 := frozen_in HX6.out (j * 2 + 1); have l6 := heap_lt HX6.out; clear hu0 hu1))
     go_wp2
     have hE9 : Ev w1 w6 := (hC.trans hD).trans hb6
     refine ⟨⟨j + 1, ys.set j sp, by go_num, by omega, (hE9.setCell (by simp) _).setCell (by simp) _, hid ?_, by rw [List.length_set]; exact hyl, hid ?_⟩, by simp [intOf]; omega⟩
     ·
      rw [set_heap_same (set_heap_same HX6.out), ← set_pair ys j _ (by omega)]
      simp only [List.setIfInBounds_toArray]
     ·
      rw [take_set_succ' (by omega), hT.out, List.take_add_one, HBJ.out]; rfl
  ·
   obtain rfl : j = nw := by omega
   have hys : ys = M.bounds f ts plan := by
    have h := hT.out
    rw [List.take_of_length_le (by omega), List.take_of_length_le (by unfold M.bounds; rw [List.length_map, List.length_range, HWLN.out]; exact Nat.le_refl _)] at h
    exact h
   have HYS := hid hys
   have HYL := hid hyl
   clear hys hyl
   go_wp2
   go_ret
   exact ⟨⟨_, _, rfl, by rw [← HYS.out]; exact sl_block (by decide) (rgc_len _) (by omega) HYL.out hX.out⟩, hw1.ev hC, hm1.ev_ hC⟩

end Go.Proofs.Ytgimcephbeajlaa
