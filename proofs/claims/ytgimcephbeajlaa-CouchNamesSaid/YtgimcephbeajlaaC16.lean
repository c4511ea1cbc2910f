import Derived.Test.YtgimcephbeajlaaC15
set_option linter.unusedSimpArgs false
set_option linter.unusedVariables false
namespace Go.Proofs.Ytgimcephbeajlaa
open Go.RowKit Go.Shelf
attribute [local go_sem] Oper.semAt_some

theorem Sl.same {α : Type} {enc : α → List Value} {sz : Nat} {x y : World} {A : Option Addr} {n d : Nat} {xs : List α} (h : Sl enc sz x x.heap.size A n d xs) (hs : x.heap.size ≤ y.heap.size) (hk : 0 < n → ∀ a, A = some a → a.block < x.heap.size → y.heap[a.block]? = x.heap[a.block]?) : Sl enc sz y y.heap.size A n d xs := by
 refine ⟨h.len, h.cap, h.small, fun hn => ?_⟩
 obtain ⟨b, off, hA, hb, hc⟩ := h.cells hn
 have hb' : y.heap[b]? = x.heap[b]? := hk hn ⟨b, off, none⟩ hA hb
 exact ⟨b, off, hA, by omega, fun k z hz j v hv => (World.cell?_of_block (w := x) (a := ⟨b, off + k * sz + j, none⟩) hb').trans (hc k z hz j v hv)⟩
theorem Mt.low {mb : Nat} {tb : Option Nat} {a x y : World} (h : Mt mb tb a x) {B : Nat} (k : Go.RowKit.Below B x y) (hB : a.heap.size ≤ B) : Mt mb tb a y :=
 ⟨k.os.trans h.os, k.tape.trans h.tape, k.output.trans h.output, Nat.le_trans h.size k.size, fun j hj h1 h2 => (k.block j (by omega)).trans (h.block j hj h1 h2)⟩
/-- As Mt, and block c may be another. -/
structure Mu (mb : Nat) (tb : Option Nat) (c : Nat) (w w' : World) : Prop where
 os : w'.os = w.os
 tape : w'.tape = w.tape
 output : w'.output = w.output
 size : w.heap.size ≤ w'.heap.size
 block : ∀ k, k < w.heap.size → k ≠ mb → some k ≠ tb → k ≠ c → w'.heap[k]? = w.heap[k]?
theorem Mt.mu {mb : Nat} {tb : Option Nat} {c : Nat} {a b : World} (h : Mt mb tb a b) (j : Nat) (v : Value) : Mu mb tb c a (b.setCell ⟨c, j, none⟩ v) :=
 ⟨(show b.os = a.os from h.os), (show b.tape = a.tape from h.tape), (show b.output = a.output from h.output), by simpa [World.setCell] using h.size, fun k hk h1 h2 h3 => (Below.heap_setCell _ _ _ _ h3).trans (h.block k hk h1 h2)⟩
theorem Mu.mt {mb : Nat} {tb : Option Nat} {c : Nat} {a b d : World} (h : Mt mb tb a b) (k : Mu mb tb c b d) (hc : a.heap.size ≤ c) : Mt mb tb a d :=
 ⟨k.os.trans h.os, k.tape.trans h.tape, k.output.trans h.output, Nat.le_trans h.size k.size, fun j hj h1 h2 => (k.block j (Nat.lt_of_lt_of_le hj h.size) h1 h2 (by omega)).trans (h.block j hj h1 h2)⟩


set_option maxRecDepth 100000 in
set_option maxHeartbeats 4000000 in
theorem shortK_in (v0 : Value) (sz : Nat) (hsz : sz ≤ 10) (p : List Int → Bool) (mb : Nat) (tb : Option Nat) (I : World → Prop) (w : World) (hmb : mb < w.heap.size) (htb : ∀ j, tb = some j → j < w.heap.size) (hI : I w) (hIB : ∀ X Y, Go.RowKit.Below w.heap.size X Y → I X → I Y)
  (hcb : ∀ W B m d rows L, I W → w.heap.size ≤ W.heap.size → Sl ics 1 W W.heap.size B m d rows → rows ∈ M.incr sz L 0 → Calls Try.prog 77 #[v0, .slice B m d] W fun e w' => e = .returned (.bool (p rows)) ∧ I w' ∧ Mt mb tb W w') :
  CallsIn Fence.wide 5 Try.prog 83 #[.agg #[v0, .int .i64 sz, .func (.func 77) #[] #[]]] w fun e w' => (∃ B d, e = .returned (.slice B (M.shortest p sz).length d) ∧ w'.ownsRow w.heap.size 3 1 (.slice B (M.shortest p sz).length d) (M.shortest p sz).length ((M.shortest p sz).flatMap ics)) ∧ I w' ∧ Mt mb tb w w' := by
 have hdd : ∀ k : Nat, (Fence.wide.depth.isSome = true → 1 ≤ k) := fun k h => by cases h
 have HCB := hid hcb
 have HIB := hid hIB
 have hnb : ∀ j, w.heap.size ≤ j → j ≠ mb ∧ some j ≠ tb := fun j hj => ⟨by omega, fun e => by have := htb _ e.symm; omega⟩
 have HI := hid hI
 clear hcb hIB hI
 refine callsIn_of_wp_marks Try.func83 rfl trivial ?_ rfl
 simp only [Try.ntmps83, List.size_toArray, List.length_cons, List.length_nil, Nat.reduceAdd, Nat.reduceSub, Array.replicate_succ, Array.replicate_zero, List.push_toArray, List.append_toArray, List.nil_append, List.cons_append]
 gi_wp2
 refine wpIn_wide.2 ?_
 apply wp_scope_straight
 refine (wpIn_wide (n := 5)).1 ?_
 have hal := alloc2 w (.cells #[v0, .int .i64 sz, .func (.func 77) #[] #[]] 124) (.cells #[.slice none 0 0] 25)
 have hE0 : Ev w ((w.alloc (.cells #[v0, .int .i64 sz, .func (.func 77) #[] #[]] 124)).alloc (.cells #[.slice none 0 0] 25)) := Ev.alloc (Ev.alloc (Ev.refl _) _) _
 have HAL := hid hal
 clear hal
 gi_wp2
 refine wpIn_wide.2 ?_
 apply wp_label
 gi_wp2
 generalize hW0 : World.alloc (World.alloc w _) _ = W0 at hE0 HAL
 have Q0 := hid HAL.out.1
 have Q1 := hid HAL.out.2.1
 clear HAL hW0
 refine wpIn_loop (fun a W => ∃ (k : Nat) (Ds : List Nat) (u4 u5 u10 u11 u12 u13 u14 u15 u16 u17 u18 u19 u20 u21 u22 u23 u24 u25 u26 u27 : Value), a = { tmps := #[.agg #[v0, .int .i64 sz, .func (.func 77) #[] #[]], .pointer (some ⟨w.heap.size, 0, none⟩), .slice none 0 0, .pointer (some ⟨w.heap.size + 1, 0, none⟩), u4, u5, .pointer (some ⟨w.heap.size, 1, none⟩), .int .i64 sz, .int .i64 ((sz : Int) + 1), .int .i64 k, u10, u11, u12, u13, u14, u15, u16, u17, u18, u19, u20, u21, u22, u23, u24, u25, u26, u27], defers := marks Ds } ∧ k ≤ sz + 1 ∧ Mt mb tb w W ∧ I W ∧
   Hid (W.heap[w.heap.size]? = some (.cells #[v0, .int .i64 sz, .func (.func 77) #[] #[]] 124 (0, 0))) ∧ Hid (W.heap[w.heap.size + 1]? = some (.cells #[.slice none 0 0] 25 (0, 0))) ∧ Ds.Nodup ∧ Hid (∀ D ∈ Ds, w.heap.size + 2 ≤ D ∧ W.heap[D]? = some (.deferred (some []))) ∧ Hid (M.first p sz k (sz + 1 - k) = M.shortest p sz))
  (fun a _ => sz + 1 - (intOf (a.tmps.getD 9 undef)).toNat) ?_ ?_
 ·
  exact ⟨0, [], undef, undef, undef, undef, undef, undef, undef, undef, undef, undef, undef, undef, undef, undef, undef, undef, undef, undef, undef, undef, rfl, by omega, Mt.ev hE0, HIB.out _ _ hE0 HI.out, Q0, Q1, List.nodup_nil, hid (by simp), hid rfl⟩
 ·
  rintro a W ⟨k, Ds, u4, u5, u10, u11, u12, u13, u14, u15, u16, u17, u18, u19, u20, u21, u22, u23, u24, u25, u26, u27, rfl, hk, hE, hIW, HS, HB, hnd, HD, HF⟩
  have hws := hE.size
  have hSl := heap_lt HS.out
  have hBl := heap_lt HB.out
  obtain ⟨s0, s1, s2⟩ := cells3 HS.out
  have b0 := cell_in HB.out 0
  simp only [List.getElem?_toArray, List.getElem?_cons_zero] at b0
  by_cases hlt : k < sz + 1
  ·
   have hcl : CallsIn Fence.wide 4 Try.prog 114 #[.int .i64 sz, .int .i64 k] W _ := callsIn_wide.2 (increasing_c sz k W)
   have HCL := hid hcl
   clear hcl
   gi_wp2_with ((try refine ⟨trivial, ?_⟩); (try refine ⟨hdd _, ?_⟩); gi_at_call 114; with_reducible refine HCL.out.mono ?_; clear HCL; rintro e W1 ⟨rfl, hE1, hq1, hq2⟩)
   have hk7 : k ≤ 10 := by omega
   have hIW1 := HIB.out _ _ (hE1.mono hws) hIW
   have hw1s := hE1.size
   obtain ⟨ns1, ns2⟩ := hnb w.heap.size (Nat.le_refl _)
   obtain ⟨nb1, nb2⟩ := hnb (w.heap.size + 1) (by omega)
   have hz1 := heap_lt hq1
   have hz0 := heap_lt hq2
   have hfb : w.heap.size + 1 < W1.heap.size := by have := hE1.size; omega
   have hBW1 := hE1.heap HB.out
   have hSW1 := hE1.heap HS.out
   have HBW := hid hBW1
   have HSW := hid hSW1
   have hnd1 : (W1.heap.size :: Ds).Nodup := List.nodup_cons.2 ⟨fun hm => by have := heap_lt (HD.out _ hm).2; have := hE1.size; omega, hnd⟩
   have hN : ∀ (B : Nat) (x y : World), W1.heap.size ≤ B → Bar W1.heap.size B x y → (Mt mb tb W1 x ∧ I x) → (Mt mb tb W1 y ∧ I y) := fun B x y hB hb h => ⟨h.1.low (hb.below (Nat.le_refl _) h.1.size) (Nat.le_refl _), HIB.out x y ((hb.below (Nat.le_refl _) h.1.size).mono (by omega)) h.2⟩
   refine rangeX (F := Fence.wide) (n := 5) rfl (by omega) (gf := 131) (lb := #[.pointer (some ⟨W.heap.size + 1, 0, none⟩), .pointer (some ⟨W.heap.size, 0, none⟩)]) rfl trivial (fun args w => Try.call131 args w)
    (incr_seq Fence.wide rfl trivial trivial rfl 4 (W.heap.size + 1) W.heap.size k sz (by omega) (by omega) W1 hq1 hq2) (Below.refl _ _) (fun j hj => by rcases hj with rfl | rfl <;> assumption) (fun _ => rfl) (incH_keep k)
    (fun _ pre X => (∀ x ∈ pre, p x = false) ∧ Mt mb tb W1 X ∧ I X)
    (fun B c pre X => c = .exit 0 ∧ ∃ x pre0 v, pre = pre0 ++ [x] ∧ (∀ y ∈ pre0, p y = false) ∧ p x = true ∧ Mu mb tb (w.heap.size + 1) W1 X ∧ I X ∧ X.heap[w.heap.size + 1]? = some (.cells #[v] 25 (0, 0)) ∧ X.ownsRow B 3 1 v x.length (x.flatMap ics) ∧ x.length ≤ 10)
    (fun _ x a' _ => a' = { tmps := #[Value.agg #[v0, .int .i64 sz, .func (.func 77) #[] #[]], .pointer (some ⟨w.heap.size, 0, none⟩), .slice none 0 0, .pointer (some ⟨w.heap.size + 1, 0, none⟩), .int .i64 k, (.slice (some ⟨W1.heap.size + 2 + 1, 0, none⟩) k k), .pointer (some ⟨w.heap.size, 1, none⟩), .int .i64 sz, .int .i64 ((sz : Int) + 1), .int .i64 k, .bool true, .int .i64 k, .pointer (some ⟨w.heap.size, 1, none⟩), .int .i64 sz, .int .i64 k, .func (.func 131) #[] #[.pointer (some ⟨W.heap.size + 1, 0, none⟩), .pointer (some ⟨W.heap.size, 0, none⟩)], (.slice (some ⟨W1.heap.size + 2 + 1, 0, none⟩) k k), u17, u18, u19, u20, u21, u22, u23, u24, u25, u26, u27], defers := [] })
    (fun B s x y hB h hb => ⟨h.1, hN B x y hB hb h.2⟩)
    (fun c B s x y hB h hb => by
     obtain ⟨rfl, z, pre0, v, h1, h2, h3, h4, hi4, h5, h6, h7⟩ := h
     have h4s := h4.size
     refine ⟨rfl, z, pre0, v, h1, h2, h3, ⟨hb.os.trans h4.os, hb.tape.trans h4.tape, hb.output.trans h4.output, Nat.le_trans h4.size hb.size, fun j hj n1 n2 n3 => ?_⟩, HIB.out x y ((hb.below (Nat.le_refl _) h4s).mono (by omega)) hi4, ?_, ownsRow_bar h6 hb, h7⟩
     ·
      exact (hb.block j (by omega) (by omega)).trans (h4.block j hj n1 n2 n3)
     ·
      exact (hb.block _ (heap_lt h5) (by omega)).trans h5)
    (fun a' B s x y hB h hb => h)
    (fun X hX => ⟨by simp, Mt.ev hX, HIB.out _ _ (hX.mono (by omega)) hIW1⟩) ?assign ?body ?done ?stop
   case assign =>
    intro l B pre x X K hB hBX hI _ hK
    unfold incE
    gi_wp2
    exact hK _ _ (Ev.refl _) rfl
   case body =>
    rintro l B pre x a' X hB hBX ⟨hp, hEX, hIX⟩ rfl hh hpre
    obtain ⟨i0, hi, hz0', hz1', hz2'⟩ := info_parts info3
    have hxm : x ∈ M.incr sz k 0 := hpre.subset (by simp)
    have hxs := hEX.size
    have hnw : ∀ j, W1.heap.size ≤ j → j ≠ mb ∧ some j ≠ tb := fun j hj => hnb j (by omega)
    have hsx := hh.2.keep (Below.refl _ X) hBX
    have hcx : CallsIn (Fence.wide.inRound l) 2 Try.prog 77 #[v0, .slice (some ⟨W1.heap.size + 2 + 1, 0, none⟩) k k] X _ := CallsIn.inRound l (callsIn_wide.2 (HCB.out X _ _ _ x k hIX (by omega) hsx hxm))
    obtain ⟨s0, s1, s2⟩ := cells3 (hEX.heap HSW.out ns1 ns2)
    have hxl : x.length = k := hsx.len
    have HCX := hid hcx
    have HSX := hid hsx
    clear hcx hsx
    cases hpx : p x with
    | true =>
     rw [hpx] at HCX
     have HPX := hid hpx
     clear hpx
     gi_wp2_with (first | ((try refine ⟨trivial, ?_⟩); (try refine ⟨hdd _, ?_⟩); gi_at_call 77; with_reducible refine HCX.out.mono ?_; rintro e X1 ⟨rfl, hI3, hE3⟩; have hB3 := (hE3.heap (hEX.heap HBW.out nb1 nb2) nb1 nb2); have HS3 := hid (HSX.out.same hE3.size (fun _ a e hl => hE3.block _ hl (hnw _ (by cases e; simp; omega)).1 (hnw _ (by cases e; simp; omega)).2)); have b3 := cell_in hB3 0; simp only [List.getElem?_toArray, List.getElem?_cons_zero] at b3) | (gi_at_builtin; refine wpListIn_append_own _ rfl (.tmp 23) (.tmp 24) 25 rfl B 3 i0 _ 1 8 Try.underlying25 hi hz0' hz1' hz2' rfl (by decide) (.slice none 0 0) 0 [] rfl (World.ownsRow_nil _ _ _ _) ⟨W1.heap.size + 2 + 1, 0, none⟩ k k (x.flatMap ics) rfl (by rw [flat_len ics 1 x (fun _ _ => rfl), hxl]) (slice_news HS3.out) (ics_one x) (by unfold maxLen; omega) (by omega) (by have := hE3.size; omega) ?_; intro v' X2 hown' hgrow _; obtain ⟨D', d', rfl, hsl'⟩ := Sl.of_own (enc := ics) (sz := 1) (xs := x) (by decide) (fun _ _ => rfl) (by omega) hown'; have hB4 : X2.heap[w.heap.size + 1]? = some (.cells #[.slice none 0 0] 25 (0, 0)) := (hgrow.block _ (heap_lt hB3) (by simp [Value.ownBlock])).trans hB3; have b4 := cell_in hB4 0; have b5 := frozen_in hB4 0; simp only [List.getElem?_toArray, List.getElem?_cons_zero] at b4))
     have hE34 : Ev X1 X2 := Ev.grown (Ev.refl _) hgrow (fun k e => by simp [Value.ownBlock] at e)
     have hx1s := hE3.size
     have hE4 : Mt mb tb X X2 := hE3.trans (Mt.ev hE34)
     have hI4 := HIB.out _ _ (hE34.mono (by omega)) hI3
     rw [List.nil_append] at hown'
     have hown2 : X2.ownsRow B 3 1 (.slice D' k d') x.length (x.flatMap ics) := by rw [hxl]; simpa using hown'
     refine ⟨⟨?_, fun j hj hor => ?_⟩, rfl, x, pre, rfl, hp, HPX.out, ?_, ?_, .slice D' k d', by rw [set_heap_same hB4]; rfl, ?_, by omega⟩
     ·
      have := hE4.size
      simpa [World.setCell] using this
     ·
      rcases hor with hf | hor
      ·
       exact hf.elim
      ·
       exact (Below.heap_setCell _ _ _ j (by simp; omega)).trans (hE4.block j hj (hnw j hor.1).1 (hnw j hor.1).2)
     ·
      exact (hEX.trans hE4).mu _ _
     ·
      exact HIB.out _ _ ((Below.refl _ _).setCell (by simp) _) hI4
     ·
      have := ownsRow_setCell_below hown2 (a := ⟨w.heap.size + 1, 0, none⟩) (show w.heap.size + 1 < B by omega) (.slice D' k d')
      simpa using this
    | false =>
     rw [hpx] at HCX
     have HPX := hid hpx
     clear hpx
     gi_wp2_with ((try refine ⟨trivial, ?_⟩); (try refine ⟨hdd _, ?_⟩); gi_at_call 77; with_reducible refine HCX.out.mono ?_; rintro e X1 ⟨rfl, hI3, hE3⟩)
     refine ⟨⟨hE3.size, fun j hj hor => ?_⟩, fun y hy => ?_, hEX.trans hE3, hI3⟩
     ·
      rcases hor with hf | hor
      ·
       have hj2 : w.heap.size ≤ j := by rcases hf with rfl | rfl <;> omega
       exact hE3.block j hj (hnb j hj2).1 (hnb j hj2).2
      ·
       exact hE3.block j hj (hnw j hor.1).1 (hnw j hor.1).2
     rcases List.mem_append.1 hy with hy | hy
     ·
      exact hp y hy
     ·
      rw [show y = x by simpa using hy]; exact HPX.out
   case done =>
    rintro B X hB ⟨hp, hEX, hIX⟩ hD
    gi_wp2
    refine ⟨⟨k + 1, W1.heap.size :: Ds, _, _, _, _, _, _, _, _, _, _, _, _, _, _, _, _, _, _, _, _, by rw [show ((k + 1 : Nat) : Int) = (k : Int) + 1 from by omega]; rfl, by omega, (hE.trans (Mt.ev hE1)).trans hEX, hIX, hid (hEX.heap HSW.out ns1 ns2), hid (hEX.heap HBW.out nb1 nb2), hnd1, hid ?_, hid ?_⟩, by simp [intOf]; omega⟩
    ·
     intro D hDm
     rcases List.mem_cons.1 hDm with rfl | hDm
     ·
      exact ⟨by omega, hD⟩
     ·
      exact ⟨(HD.out D hDm).1, hEX.heap (hE1.heap (HD.out D hDm).2) (hnb D (by have := (HD.out D hDm).1; omega)).1 (hnb D (by have := (HD.out D hDm).1; omega)).2⟩
    ·
     rw [← HF.out, show sz + 1 - k = (sz + 1 - (k + 1)) + 1 from by omega]
     have hfn : (M.incr sz k 0).find? p = none := List.find?_eq_none.2 (fun x hx => by rw [hp x hx]; decide)
     conv => rhs; unfold M.first
     rw [hfn]
   case stop =>
    rintro B c pre X hB hpre ⟨rfl, x, pre0, v, rfl, hp, hpx, hbar, hIX, hbx, hown, hx7⟩ hD
    obtain ⟨D', d', rfl, hsl'⟩ := Sl.of_own (enc := ics) (sz := 1) (xs := x) (by decide) (fun _ _ => rfl) (by omega) hown
    have b5 := cell_in hbx 0
    simp only [List.getElem?_toArray, List.getElem?_cons_zero] at b5
    gi_wp2
    have hfn : (M.incr sz k 0).find? p = some x := by
     obtain ⟨r, hr⟩ := hpre
     rw [← hr, List.append_assoc, List.find?_append, List.find?_eq_none.2 (fun y hy => by rw [hp y hy]; decide)]
     simp [hpx]
    have hxs : M.shortest p sz = x := by
     rw [← HF.out, show sz + 1 - k = (sz + 1 - (k + 1)) + 1 from by omega]
     unfold M.first
     rw [hfn]
    show LeavesInM Fence.wide 5 Try.prog Try.f83 _ _ (marks (W1.heap.size :: Ds)) .returning X
    have hEb : Mt mb tb w X := Mu.mt (hE.trans (Mt.ev hE1)) hbar (by omega)
    refine leaves_marks (A := w.heap.size) (W1.heap.size :: Ds) X hnd1 (fun D hDm => ?_) (fun w' hb' hk' => ?_)
    ·
     rcases List.mem_cons.1 hDm with rfl | hDm
     ·
      exact ⟨by omega, hD⟩
     ·
      obtain ⟨h1, h2⟩ := HD.out D hDm
      exact ⟨by omega, (hbar.block D (heap_lt (hE1.heap h2)) (hnb D (by omega)).1 (hnb D (by omega)).2 (by omega)).trans (hE1.heap h2)⟩
    ·
     have hnm : ∀ (j : Nat) (o : Obj), X.heap[j]? = some o → o.isCells = true → w'.heap[j]? = some o := fun j o ho hc => by
      refine (hk' j (fun hm => ?_)).trans ho
      have : X.heap[j]? = some (.deferred (some [])) := by
       rcases List.mem_cons.1 hm with rfl | hm
       ·
        exact hD
       ·
        obtain ⟨h1, h2⟩ := HD.out j hm
        exact (hbar.block j (heap_lt (hE1.heap h2)) (hnb j (by omega)).1 (hnb j (by omega)).2 (by omega)).trans (hE1.heap h2)
      rw [this] at ho
      cases ho
      cases hc
     have how2 := own_base (ownsRow_cells hown hnm) (show w.heap.size ≤ B by omega)
     obtain ⟨D2, d2, he2, hsl2⟩ := Sl.of_own (enc := ics) (sz := 1) (xs := x) (by decide) (fun _ _ => rfl) (by omega) how2
     rw [he2] at how2
     refine ⟨_, results_tmp rfl _ _ _, ⟨D2, d2, ?_, ?_⟩, HIB.out _ _ hb' hIX, hEb.low hb' (Nat.le_refl _)⟩
     ·
      rw [hxs, ← he2]; rfl
     ·
      rw [hxs]; exact how2
  ·
   have hks : k = sz + 1 := by omega
   subst hks
   have hF := HF.out
   rw [Nat.sub_self] at hF
   have HFF := hid hF
   clear hF
   gi_wp2
   show LeavesInM Fence.wide 5 Try.prog Try.f83 _ _ (marks Ds) .returning W
   refine leaves_marks (A := w.heap.size) Ds W hnd (fun D hDm => ⟨by have := (HD.out D hDm).1; omega, (HD.out D hDm).2⟩) (fun w' hb' _ => ?_)
   refine ⟨_, results_tmp rfl _ _ _, ⟨none, 0, ?_, ?_⟩, HIB.out _ _ hb' hIW, hE.low hb' (Nat.le_refl _)⟩
   ·
    rw [← HFF.out]; rfl
   ·
    rw [← HFF.out]; exact World.ownsRow_nil _ _ _ _

end Go.Proofs.Ytgimcephbeajlaa
