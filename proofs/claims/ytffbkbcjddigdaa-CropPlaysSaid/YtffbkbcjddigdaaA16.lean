import Derived.Test.YtffbkbcjddigdaaA15
set_option linter.unusedSimpArgs false
set_option linter.unusedVariables false
namespace Go.Proofs.Ytffbkbcjddigdaa
open Go.RowKit Go.Shelf
attribute [local go_sem] Oper.semAt_some

/-- All lists with one element of each part. -/
def M.choices : List (List Int) → List (List Int)
  | [] => [[]]
  | p :: ps => p.flatMap fun x => (M.choices ps).map (x :: ·)

/-- The parts from which an iterator chooses, in blocks that R names. -/
def PR (R : Nat → Prop) (W : World) (PA : Option Addr) (L : Nat) (vs : List Hd) (ps : List (List Int)) : Prop :=
  ps.length = L ∧ ∀ t, t < L → ∃ b off Ak nk ck x, PA = some ⟨b, off, none⟩ ∧ R b ∧ vs[t]? = some (Ak, nk, ck) ∧ W.cell? ⟨b, off + t, none⟩ = some (.slice Ak nk ck) ∧ ps[t]? = some x ∧ x.length = nk ∧ nk ≤ ck ∧ nk ≤ 1000 ∧
    ∀ j y, x[j]? = some y → ∃ b' o', Ak = some ⟨b', o', none⟩ ∧ R b' ∧ W.cell? ⟨b', o' + j, none⟩ = some (.int .i64 y)
theorem cell_lt {W : World} {b o : Nat} {v : Value} (h : W.cell? ⟨b, o, none⟩ = some v) : b < W.heap.size := by
  unfold World.cell? at h
  split at h
  · rename_i hb; exact heap_lt hb
  · cases h
theorem PR.same {R : Nat → Prop} {X Y : World} {PA : Option Addr} {L : Nat} {vs : List Hd} {ps : List (List Int)} (h : PR R X PA L vs ps) (hk : ∀ k, R k → k < X.heap.size → Y.heap[k]? = X.heap[k]?) : PR R Y PA L vs ps := by
  refine ⟨h.1, fun t ht => ?_⟩
  obtain ⟨b, off, Ak, nk, ck, x, h1, h2, hv, h3, h4, h5, h6, h7, h8⟩ := h.2 t ht
  refine ⟨b, off, Ak, nk, ck, x, h1, h2, hv, (World.cell?_of_block (w := X) (hk b h2 (cell_lt h3))).trans h3, h4, h5, h6, h7, fun j y hj => ?_⟩
  obtain ⟨b', o', g1, g2, g3⟩ := h8 j y hj
  exact ⟨b', o', g1, g2, (World.cell?_of_block (w := X) (hk b' g2 (cell_lt g3))).trans g3⟩

/-- The cells of the iterator over choices: its own four blocks from A on, and the parts that it has captured. -/
structure ChS (R : Nat → Prop) (A pp L pc l : Nat) (PA : Option Addr) (vs : List Hd) (ps : List (List Int)) (y : List Int) (W : World) : Prop where
  par : W.heap[pp]? = some (.cells #[.slice PA L pc] 165 (0, 0))
  yld : W.heap[A]? = some (.cells #[.func (.yield l) #[] #[]] 105 (0, 0))
  arr : W.heap[A + 1]? = some (.cells (y.map (Value.int .i64)).toArray 3 (0, 0))
  lst : W.heap[A + 2]? = some (.cells #[.slice (some ⟨A + 1, 0, none⟩) L L] 23 (0, 0))
  cho : W.heap[A + 3]? = some (.cells #[.func (.func 123) #[] #[.pointer (some ⟨pp, 0, none⟩), .pointer (some ⟨A, 0, none⟩), .pointer (some ⟨A + 2, 0, none⟩), .pointer (some ⟨A + 3, 0, none⟩)]] 119 (0, 0))
  ylen : y.length = L
  rows : PR R W PA L vs ps

theorem ChS.kept {R : Nat → Prop} {A pp L pc l : Nat} {PA : Option Addr} {vs : List Hd} {ps : List (List Int)} {y : List Int} {X Y : World} {B : Nat} (h : ChS R A pp L pc l PA vs ps y X) (hk : Kept R A B X Y) (h1 : R pp) (hB : A + 4 ≤ B) : ChS R A pp L pc l PA vs ps y Y :=
  have g : ∀ {k : Nat} {o : Obj}, X.heap[k]? = some o → (R k ∨ (A ≤ k ∧ k < B)) → Y.heap[k]? = some o := fun h0 hor => (hk.block _ (heap_lt h0) hor).trans h0
  ⟨g h.par (.inl h1), g h.yld (.inr (by omega)), g h.arr (.inr (by omega)), g h.lst (.inr (by omega)), g h.cho (.inr (by omega)), h.ylen, h.rows.same fun k hr hl => hk.block k hl (.inl hr)⟩

theorem ChS.sl {R : Nat → Prop} {A pp L pc l B : Nat} {PA : Option Addr} {vs : List Hd} {ps : List (List Int)} {y : List Int} {W : World} (h : ChS R A pp L pc l PA vs ps y W) (hB : A + 4 ≤ B) (hL : L ≤ 100) : Sl ics 1 W B (some ⟨A + 1, 0, none⟩) L L y := by
  refine ⟨h.ylen, Nat.le_refl _, by omega, fun _ => ⟨A + 1, 0, rfl, by omega, fun k x hk j v hj => ?_⟩⟩
  have hv : j = 0 ∧ v = .int .i64 x := by
    rcases j with _ | j
    · simp [ics] at hj; exact ⟨rfl, hj.symm⟩
    · simp [ics] at hj
  obtain ⟨rfl, rfl⟩ := hv
  rw [show 0 + k * 1 + 0 = k from by omega, cell_in h.arr k]
  simp [hk]

set_option maxRecDepth 100000 in
set_option maxHeartbeats 4000000 in
theorem chooseC_in (F : Fence) (hd : F.depth = none) (h125 : F.fn 123) (hro : F.round = none) (l A pp L pc : Nat) (PA : Option Addr) (vs : List Hd) (ps : List (List Int)) (hL : L ≤ 100) (hpc : L ≤ pc) (R : Nat → Prop) (r1 : R pp) (hRA : ∀ k, R k → k < A) (xs : List (List Int))
    (J Jx : Nat → List (List Int) → World → Prop) (hJ : Abides A J)
    (hY : ∀ n B pre x W1, A ≤ B → B ≤ W1.heap.size → J B pre W1 → incH L A B x W1 → pre ++ [x] <+: xs → YieldAt F n Try.prog l (incE L A x) W1 fun e W' =>
      (e = .returned (.bool true) ∧ J B (pre ++ [x]) W' ∧ Kept R A B W1 W') ∨ (e = .returned (.bool false) ∧ Jx B (pre ++ [x]) W')) (qs : List (List Int)) :
    ∀ (n : Nat) (t : Nat) (pr y : List Int) (don : List (List Int)) (W : World), t + qs.length = L → ps.drop t = qs → ChS R A pp L pc l PA vs ps y W → A + 4 ≤ W.heap.size → y.take t = pr → J (A + 4) don W → don ++ (M.choices qs).map (pr ++ ·) <+: xs →
      CallsIn F n Try.prog 123 #[.int .i64 t, .pointer (some ⟨pp, 0, none⟩), .pointer (some ⟨A, 0, none⟩), .pointer (some ⟨A + 2, 0, none⟩), .pointer (some ⟨A + 3, 0, none⟩)] W fun e W' =>
        (e = .returned (.bool true) ∧ J (A + 4) (don ++ (M.choices qs).map (pr ++ ·)) W' ∧ W.heap.size ≤ W'.heap.size ∧ ∃ y', ChS R A pp L pc l PA vs ps y' W' ∧ y'.take t = pr) ∨ (e = .returned (.bool false) ∧ ∃ q, q <+: xs ∧ Jx (A + 4) q W') := by
  have hdd : ∀ k : Nat, (F.depth.isSome = true → 1 ≤ k) := fun k h => by rw [hd] at h; cases h
  induction qs with
  | nil =>
    intro n t pr y don W ht hqs hS hz hy hJd hpx
    simp only [List.length_nil, Nat.add_zero] at ht
    subst ht
    have hyl := hS.ylen
    have hpr : y = pr := by rw [← hy, List.take_of_length_le (by omega)]
    subst hpr
    simp only [M.choices, List.map_cons, List.map_nil, List.append_nil] at hpx ⊢
    have hr := hY (n - 1) (A + 4) don y W (by omega) hz hJd ⟨Nat.le_refl _, hS.sl (Nat.le_refl _) hL⟩ hpx
    obtain ⟨fn, tmps, assign, body, hyy, hR⟩ := hr
    unfold incE at hyy
    have c1 := cell_in hS.par 0
    have c2 := cell_in hS.yld 0
    have c3 := cell_in hS.lst 0
    simp only [List.getElem?_toArray, List.getElem?_cons_zero] at c1 c2 c3
    refine callsIn_of_wp Try.func123 rfl h125 ?_ hro
    simp only [Try.ntmps123, List.size_toArray, List.length_cons, List.length_nil, Nat.reduceAdd, Nat.reduceSub, Array.replicate_succ, Array.replicate_zero, List.push_toArray, List.append_toArray, List.nil_append, List.cons_append]
    clear hqs hyl hy
    gi_wp2_with (((try refine ⟨hdd _, ?_⟩); refine hR.mono ?_; clear hR; rintro e W2 (⟨rfl, hJ2, hk2⟩ | ⟨rfl, hx2⟩)))
    · go_ret
      exact .inl ⟨rfl, hJ2, hk2.size, y, hS.kept hk2 r1 (Nat.le_refl _), by rw [List.take_of_length_le (by rw [hS.ylen]; exact Nat.le_refl _)]⟩
    · go_ret
      exact .inr ⟨rfl, _, hpx, hx2⟩
  | cons q0 qs ih =>
    intro n t pr y don W ht hqs hS hz hy hJd hpx
    simp only [List.length_cons] at ht
    have htl : t < L := by omega
    have htL : ((t : Int) == (L : Int)) = false := by simpa using (show ¬ (t : Int) = L by omega)
    have t0 : (0 : Int) ≤ t := by omega
    have tl : (t : Int) < L := by omega
    obtain ⟨b, off, Ak, nk, ck, x, rfl, hb, hvs, hc, hx, hxl, hnc, hnk, hrow⟩ := hS.rows.2 t htl
    have hq0 : q0 = x ∧ ps.drop (t + 1) = qs := by
      rw [drop_some hx] at hqs
      exact ⟨(List.cons.inj hqs).1.symm, (List.cons.inj hqs).2⟩
    obtain ⟨rfl, hqs'⟩ := hq0
    have c1 := cell_in hS.par 0
    simp only [List.getElem?_toArray, List.getElem?_cons_zero] at c1
    have HVS := hid hvs
    clear hvs
    have HQ := hid hqs'
    have HXL := hid hxl
    have HX0 := hid hx
    have HROW := hid hrow
    clear hqs hqs' hx hxl hrow
    refine callsIn_of_wp Try.func123 rfl h125 ?_ hro
    simp only [Try.ntmps123, List.size_toArray, List.length_cons, List.length_nil, Nat.reduceAdd, Nat.reduceSub, Array.replicate_succ, Array.replicate_zero, List.push_toArray, List.append_toArray, List.nil_append, List.cons_append]
    gi_wp2
    gi_loopw [21] (fun v wr => ∃ k : Nat, ∃ y', ∃ don' : List (List Int), v = .int .i64 k ∧ k ≤ nk ∧ ChS R A pp L pc l (some ⟨b, off, none⟩) vs ps y' wr ∧ W.heap.size ≤ wr.heap.size ∧ Hid (∀ j u, q0[j]? = some u → ∃ b' o', Ak = some ⟨b', o', none⟩ ∧ R b' ∧ wr.cell? ⟨b', o' + j, none⟩ = some (.int .i64 u)) ∧ Hid (y'.take t = pr) ∧ J (A + 4) don' wr ∧ Hid (don' ++ ((q0.drop k).flatMap fun i => (M.choices qs).map (i :: ·)).map (pr ++ ·) = don ++ (M.choices (q0 :: qs)).map (pr ++ ·))) (fun v _ => nk - (intOf v).toNat)
    case atStart => exact ⟨0, y, don, rfl, Nat.zero_le _, hS, Nat.le_refl _, HROW, hid hy, hJd, hid rfl⟩
    case round =>
      obtain ⟨k, y', don', rfl, hk, hS', hz', HRW, HY', hJ', HD⟩ := hrel
      by_cases hlt : k < nk
      · have hprl : pr.length = t := by rw [← HY'.out, List.length_take, hS'.ylen]; omega
        have hxk : q0[k]? = some (q0[k]'(by rw [HXL.out]; exact hlt)) := List.getElem?_eq_getElem _
        generalize q0[k]'(by rw [HXL.out]; exact hlt) = u at hxk
        obtain ⟨b', o', rfl, hb', hcu⟩ := HRW.out k u hxk
        have c3 := cell_in hS'.lst 0
        have c4 := cell_in hS'.cho 0
        simp only [List.getElem?_toArray, List.getElem?_cons_zero] at c3 c4
        have c5 : wr.cell? ⟨A + 1, t, none⟩ = some (.int .i64 (y'.getD t 0)) := by
          rw [cell_in hS'.arr t, List.getElem?_toArray, List.getElem?_map, List.getD_eq_getElem?_getD, List.getElem?_eq_getElem (by rw [hS'.ylen]; exact htl)]; rfl
        have c6 := frozen_in hS'.arr t
        generalize y'.getD t 0 = u0 at c5
        have hoth : ∀ j, R j → (wr.setCell ⟨A + 1, t, none⟩ (.int .i64 u)).heap[j]? = wr.heap[j]? := fun j hj => Below.heap_setCell _ _ _ _ (by have := hRA j hj; simp; omega)
        have hS1 : ChS R A pp L pc l (some ⟨b, off, none⟩) vs ps (y'.set t u) (wr.setCell ⟨A + 1, t, none⟩ (.int .i64 u)) :=
          ⟨set_heap hS'.par (by have := hRA pp r1; simp; omega), set_heap hS'.yld (by simp), by rw [set_heap_same hS'.arr]; simp [List.map_set], set_heap hS'.lst (by simp), set_heap hS'.cho (by simp), by rw [List.length_set]; exact hS'.ylen, hS'.rows.same fun j hj _ => hoth j hj⟩
        have hsz1 : (wr.setCell ⟨A + 1, t, none⟩ (.int .i64 u)).heap.size = wr.heap.size := by simp [World.setCell]
        have hD := HD.out
        rw [drop_some hxk, List.flatMap_cons, List.map_append, List.map_map, ← List.append_assoc] at hD
        have hfn : ((fun x => pr ++ x) ∘ fun x => u :: x) = fun x => (pr ++ [u]) ++ x := by funext x; simp
        rw [hfn] at hD
        have hpre1 : don' ++ (M.choices qs).map ((pr ++ [u]) ++ ·) <+: xs := List.IsPrefix.trans ⟨_, hD⟩ hpx
        have hih := ih (n - 1) (t + 1) (pr ++ [u]) (y'.set t u) don' (wr.setCell ⟨A + 1, t, none⟩ (.int .i64 u)) (by omega) HQ.out hS1 (by simp [World.setCell]; omega)
          (by rw [List.take_add_one, List.take_set_of_le (Nat.le_refl _), HY'.out]; simp [hS'.ylen, htl]) (hJ _ _ _ _ (by omega) hJ' (Bar.setCell _ (by simp) (by simp))) hpre1
        rw [show ((t + 1 : Nat) : Int) = (t : Int) + 1 from by omega] at hih
        have HIH := hid hih
        have HD2 := hid hD
        have hkn : (k : Int) < nk := by omega
        have hk0 : (0 : Int) ≤ k := by omega
        clear hih ih hD hfn hpre1 hxk
        gi_wp2_with ((try refine ⟨hdd _, ?_⟩); gi_at_call 123; with_reducible refine HIH.out.mono ?_; clear HIH; rintro e W2 (⟨rfl, hJ2, hz2, y2, hS2, hy2⟩ | ⟨rfl, q, hq, hx2⟩))
        · refine ⟨⟨k + 1, y2, _, by go_num, by omega, hS2, by rw [hsz1] at hz2; omega, hid ?_, hid ?_, hJ2, HD2⟩, by simp [intOf]; omega⟩
          · obtain ⟨b2, off2, Ak2, nk2, ck2, x2, e1, hb2, hv2, hc2, hx2, _, _, _, hrow2⟩ := hS2.rows.2 t htl
            rw [HVS.out] at hv2
            simp only [Option.some.injEq, Prod.mk.injEq] at hv2
            obtain ⟨rfl, rfl, rfl⟩ := hv2
            rw [HX0.out] at hx2
            cases hx2
            exact hrow2
          · have h3 : (y2.take (t + 1)).take t = (pr ++ [u]).take t := by rw [hy2]
            rw [List.take_take, Nat.min_eq_left (by omega), List.take_left' hprl] at h3
            exact h3
        · go_ret
          exact .inr ⟨rfl, q, hq, hx2⟩
      · have hks : k = nk := by omega
        subst hks
        have hD := HD.out
        rw [List.drop_eq_nil_of_le (by rw [HXL.out]; exact Nat.le_refl _)] at hD
        simp only [List.flatMap_nil, List.map_nil, List.append_nil] at hD
        have HDD := hid hD
        clear hD
        gi_wp2
        go_ret
        exact .inl ⟨rfl, by rw [← HDD.out]; exact hJ', hz', y', hS', HY'.out⟩

end Go.Proofs.Ytffbkbcjddigdaa
