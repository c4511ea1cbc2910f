import Derived.Test.YtffbkbcjddigdaaA12
set_option linter.unusedSimpArgs false
set_option linter.unusedVariables false
namespace Go.Proofs.Ytffbkbcjddigdaa
open Go.RowKit Go.Shelf
attribute [local go_sem] Oper.semAt_some

/-- All lists with one element of each part. -/
def M.choices : List (List Int) → List (List Int)
 | [] => [[]]
 | p :: ps => p.flatMap fun x => (M.choices ps).map (x :: ·)

/-- The parts from which an iterator chooses, in blocks that R names. -/
def PR (R : Nat → Prop) (W : World) (PA : Option Addr) (L : Nat) (vs : List Hd) (ps : List (List Int)) : Prop :=
 ps.length = L ∧ ∀ t, t < L → ∃ b off Ak nk ck x, PA = some ⟨b, off, none⟩ ∧ R b ∧ vs[t]? = some (Ak, nk, ck) ∧ W.cell? ⟨b, off + t, none⟩ = some (.slice Ak nk ck) ∧ ps[t]? = some x ∧ x.length = nk ∧ nk ≤ ck ∧ nk ≤ 1000 ∧
  ∀ j y, x[j]? = some y → ∃ b' o', Ak = some ⟨b', o', none⟩ ∧ R b' ∧ W.cell? ⟨b', o' + j, none⟩ = some (.int .i64 y)
theorem cell_lt {W : World} {b o : Nat} {v : Value} (h : W.cell? ⟨b, o, none⟩ = some v) : b < W.heap.size := by
 unfold World.cell? at h
 split at h
 ·
  rename_i hb; exact heap_lt hb
 ·
  cases h
theorem PR.same {R : Nat → Prop} {X Y : World} {PA : Option Addr} {L : Nat} {vs : List Hd} {ps : List (List Int)} (h : PR R X PA L vs ps) (hk : ∀ k, R k → k < X.heap.size → Y.heap[k]? = X.heap[k]?) : PR R Y PA L vs ps := by
 refine ⟨h.1, fun t ht => ?_⟩
 obtain ⟨b, off, Ak, nk, ck, x, h1, h2, hv, h3, h4, h5, h6, h7, h8⟩ := h.2 t ht
 refine ⟨b, off, Ak, nk, ck, x, h1, h2, hv, (World.cell?_of_block (w := X) (hk b h2 (cell_lt h3))).trans h3, h4, h5, h6, h7, fun j y hj => ?_⟩
 obtain ⟨b', o', g1, g2, g3⟩ := h8 j y hj
 exact ⟨b', o', g1, g2, (World.cell?_of_block (w := X) (hk b' g2 (cell_lt g3))).trans g3⟩

/-- The cells of the iterator over choices: its own four blocks from A on, and the parts that it has captured. -/
structure ChS (R : Nat → Prop) (A pp L pc l : Nat) (PA : Option Addr) (vs : List Hd) (ps : List (List Int)) (y : List Int) (W : World) : Prop where
 par : W.heap[pp]? = some (.cells #[.slice PA L pc] 165 (0, 0))
 yld : W.heap[A]? = some (.cells #[.func (.yield l) #[] #[]] 105 (0, 0))
 arr : W.heap[A + 1]? = some (.cells (y.map (Value.int .i64)).toArray 3 (0, 0))
 lst : W.heap[A + 2]? = some (.cells #[.slice (some ⟨A + 1, 0, none⟩) L L] 23 (0, 0))
 cho : W.heap[A + 3]? = some (.cells #[.func (.func 123) #[] #[.pointer (some ⟨pp, 0, none⟩), .pointer (some ⟨A, 0, none⟩), .pointer (some ⟨A + 2, 0, none⟩), .pointer (some ⟨A + 3, 0, none⟩)]] 119 (0, 0))
 ylen : y.length = L
 rows : PR R W PA L vs ps

theorem ChS.kept {R : Nat → Prop} {A pp L pc l : Nat} {PA : Option Addr} {vs : List Hd} {ps : List (List Int)} {y : List Int} {X Y : World} {B : Nat} (h : ChS R A pp L pc l PA vs ps y X) (hk : Kept R A B X Y) (h1 : R pp) (hB : A + 4 ≤ B) : ChS R A pp L pc l PA vs ps y Y :=
 have g : ∀ {k : Nat} {o : Obj}, X.heap[k]? = some o → (R k ∨ (A ≤ k ∧ k < B)) → Y.heap[k]? = some o := fun h0 hor => (hk.block _ (heap_lt h0) hor).trans h0
 ⟨g h.par (.inl h1), g h.yld (.inr (by omega)), g h.arr (.inr (by omega)), g h.lst (.inr (by omega)), g h.cho (.inr (by omega)), h.ylen, h.rows.same fun k hr hl => hk.block k hl (.inl hr)⟩

theorem ChS.sl {R : Nat → Prop} {A pp L pc l B : Nat} {PA : Option Addr} {vs : List Hd} {ps : List (List Int)} {y : List Int} {W : World} (h : ChS R A pp L pc l PA vs ps y W) (hB : A + 4 ≤ B) (hL : L ≤ 100) : Sl ics 1 W B (some ⟨A + 1, 0, none⟩) L L y := by
 refine ⟨h.ylen, Nat.le_refl _, by omega, fun _ => ⟨A + 1, 0, rfl, by omega, fun k x hk j v hj => ?_⟩⟩
 have hv : j = 0 ∧ v = .int .i64 x := by
  rcases j with _ | j
  ·
   simp [ics] at hj; exact ⟨rfl, hj.symm⟩
  ·
   simp [ics] at hj
 obtain ⟨rfl, rfl⟩ := hv
 rw [show 0 + k * 1 + 0 = k from by omega, cell_in h.arr k]
 simp [hk]

set_option maxRecDepth 100000 in
set_option maxHeartbeats 4000000 in
theorem chooseC_in (F : Fence) (hd : F.depth = none) (h125 : F.fn 123) (hro : F.round = none) (l A pp L pc : Nat) (PA : Option Addr) (vs : List Hd) (ps : List (List Int)) (hL : L ≤ 100) (hpc : L ≤ pc) (R : Nat → Prop) (r1 : R pp) (hRA : ∀ k, R k → k < A) (xs : List (List Int))
  (J Jx : Nat → List (List Int) → World → Prop) (hJ : Abides A J)
  (hY : ∀ n B pre x W1, A ≤ B → B ≤ W1.heap.size → J B pre W1 → incH L A B x W1 → pre ++ [x] <+: xs → YieldAt F n Try.prog l (incE L A x) W1 fun e W' =>
   (e = .returned (.bool true) ∧ J B (pre ++ [x]) W' ∧ Kept R A B W1 W') ∨ (e = .returned (.bool false) ∧ Jx B (pre ++ [x]) W')) (qs : List (List Int)) :
  ∀ (n : Nat) (t : Nat) (pr y : List Int) (don : List (List Int)) (W : World), t + qs.length = L → ps.drop t = qs → ChS R A pp L pc l PA vs ps y W → A + 4 ≤ W.heap.size → y.take t = pr → J (A + 4) don W → don ++ (M.choices qs).map (pr ++ ·) <+: xs →
   CallsIn F n Try.prog 123 #[.int .i64 t, .pointer (some ⟨pp, 0, none⟩), .pointer (some ⟨A, 0, none⟩), .pointer (some ⟨A + 2, 0, none⟩), .pointer (some ⟨A + 3, 0, none⟩)] W fun e W' =>
    (e = .returned (.bool true) ∧ J (A + 4) (don ++ (M.choices qs).map (pr ++ ·)) W' ∧ W.heap.size ≤ W'.heap.size ∧ ∃ y', ChS R A pp L pc l PA vs ps y' W' ∧ y'.take t = pr) ∨ (e = .returned (.bool false) ∧ ∃ q, q <+: xs ∧ Jx (A + 4) q W') := by
 have hdd : ∀ k : Nat, (F.depth.isSome = true → 1 ≤ k) := fun k h => by rw [hd] at h; cases h
 induction qs with
 | nil =>
  intro n t pr y don W ht hqs hS hz hy hJd hpx
  simp only [List.length_nil, Nat.add_zero] at ht
  subst ht
  have hyl := hS.ylen
  have hpr : y = pr := by rw [← hy, List.take_of_length_le (by omega)]
  subst hpr
  simp only [M.choices, List.map_cons, List.map_nil, List.append_nil] at hpx ⊢
  have hr := hY (n - 1) (A + 4) don y W (by omega) hz hJd ⟨Nat.le_refl _, hS.sl (Nat.le_refl _) hL⟩ hpx
  obtain ⟨fn, tmps, assign, body, hyy, hR⟩ := hr
  unfold incE at hyy
  have c1 := cell_in hS.par 0
  have c2 := cell_in hS.yld 0
  have c3 := cell_in hS.lst 0
  simp only [List.getElem?_toArray, List.getElem?_cons_zero] at c1 c2 c3
  refine callsIn_of_wp Try.func123 rfl h125 ?_ hro
  simp only [Try.ntmps123, List.size_toArray, List.length_cons, List.length_nil, Nat.reduceAdd, Nat.reduceSub, Array.replicate_succ, Array.replicate_zero, List.push_toArray, List.append_toArray, List.nil_append, List.cons_append]
  clear hqs hyl hy
  gi_wp2_with (((try refine ⟨hdd _, ?_⟩); refine hR.mono ?_; clear hR; rintro e W2 (⟨rfl, hJ2, hk2⟩ | ⟨rfl, hx2⟩)))
  ·
   go_ret
   exact .inl ⟨rfl, hJ2, hk2.size, y, hS.kept hk2 r1 (Nat.le_refl _), by rw [List.take_of_length_le (by rw [hS.ylen]; exact Nat.le_refl _)]⟩
  ·
   go_ret
   exact .inr ⟨rfl, _, hpx, hx2⟩
 | cons q0 qs ih =>
  intro n t pr y don W ht hqs hS hz hy hJd hpx
  simp only [List.length_cons] at ht
  have htl : t < L := by omega
  have htL : ((t : Int) == (L : Int)) = false := by simpa using (show ¬ (t : Int) = L by omega)
  have t0 : (0 : Int) ≤ t := by omega
  have tl : (t : Int) < L := by omega
  obtain ⟨b, off, Ak, nk, ck, x, rfl, hb, hvs, hc, hx, hxl, hnc, hnk, hrow⟩ := hS.rows.2 t htl
  have hq0 : q0 = x ∧ ps.drop (t + 1) = qs := by
   rw [drop_some hx] at hqs
   exact ⟨(List.cons.inj hqs).1.symm, (List.cons.inj hqs).2⟩
  obtain ⟨rfl, hqs'⟩ := hq0
  have c1 := cell_in hS.par 0
  simp only [List.getElem?_toArray, List.getElem?_cons_zero] at c1
  have HVS := hid hvs
  clear hvs
  have HQ := hid hqs'
  have HXL := hid hxl
  have HX0 := hid hx
  have HROW := hid hrow
  clear hqs hqs' hx hxl hrow
  refine callsIn_of_wp Try.func123 rfl h125 ?_ hro
  simp only [Try.ntmps123, List.size_toArray, List.length_cons, List.length_nil, Nat.reduceAdd, Nat.reduceSub, Array.replicate_succ, Array.replicate_zero, List.push_toArray, List.append_toArray, List.nil_append, List.cons_append]
  gi_wp2
  gi_loopw [21] (fun v wr => ∃ k : Nat, ∃ y', ∃ don' : List (List Int), v = .int .i64 k ∧ k ≤ nk ∧ ChS R A pp L pc l (some ⟨b, off, none⟩) vs ps y' wr ∧ W.heap.size ≤ wr.heap.size ∧ Hid (∀ j u, q0[j]? = some u → ∃ b' o', Ak = some ⟨b', o', none⟩ ∧ R b' ∧ wr.cell? ⟨b', o' + j, none⟩ = some (.int .i64 u)) ∧ Hid (y'.take t = pr) ∧ J (A + 4) don' wr ∧ Hid (don' ++ ((q0.drop k).flatMap fun i => (M.choices qs).map (i :: ·)).map (pr ++ ·) = don ++ (M.choices (q0 :: qs)).map (pr ++ ·))) (fun v _ => nk - (intOf v).toNat)
  case atStart => exact ⟨0, y, don, rfl, Nat.zero_le _, hS, Nat.le_refl _, HROW, hid hy, hJd, hid rfl⟩
  case round =>
   obtain ⟨k, y', don', rfl, hk, hS', hz', HRW, HY', hJ', HD⟩ := hrel
   by_cases hlt : k < nk
   ·
    have hprl : pr.length = t := by rw [← HY'.out, List.length_take, hS'.ylen]; omega
    have hxk : q0[k]? = some (q0[k]'(by rw [HXL.out]; exact hlt)) := List.getElem?_eq_getElem _
    generalize q0[k]'(by rw [HXL.out]; exact hlt) = u at hxk
    obtain ⟨b', o', rfl, hb', hcu⟩ := HRW.out k u hxk
    have c3 := cell_in hS'.lst 0
    have c4 := cell_in hS'.cho 0
    simp only [List.getElem?_toArray, List.getElem?_cons_zero] at c3 c4
    have c5 : wr.cell? ⟨A + 1, t, none⟩ = some (.int .i64 (y'.getD t 0)) := by
     rw [cell_in hS'.arr t, List.getElem?_toArray, List.getElem?_map, List.getD_eq_getElem?_getD, List.getElem?_eq_getElem (by rw [hS'.ylen]; exact htl)]; rfl
    have c6 := frozen_in hS'.arr t
    generalize y'.getD t 0 = u0 at c5
    have hoth : ∀ j, R j → (wr.setCell ⟨A + 1, t, none⟩ (.int .i64 u)).heap[j]? = wr.heap[j]? := fun j hj => Below.heap_setCell _ _ _ _ (by have := hRA j hj; simp; omega)
    have hS1 : ChS R A pp L pc l (some ⟨b, off, none⟩) vs ps (y'.set t u) (wr.setCell ⟨A + 1, t, none⟩ (.int .i64 u)) :=
     ⟨set_heap hS'.par (by have := hRA pp r1; simp; omega), set_heap hS'.yld (by simp), by rw [set_heap_same hS'.arr]; simp [List.map_set], set_heap hS'.lst (by simp), set_heap hS'.cho (by simp), by rw [List.length_set]; exact hS'.ylen, hS'.rows.same fun j hj _ => hoth j hj⟩
    have hsz1 : (wr.setCell ⟨A + 1, t, none⟩ (.int .i64 u)).heap.size = wr.heap.size := by simp [World.setCell]
    have hD := HD.out
    rw [drop_some hxk, List.flatMap_cons, List.map_append, List.map_map, ← List.append_assoc] at hD
    have hfn : ((fun x => pr ++ x) ∘ fun x => u :: x) = fun x => (pr ++ [u]) ++ x := by funext x; simp
    rw [hfn] at hD
    have hpre1 : don' ++ (M.choices qs).map ((pr ++ [u]) ++ ·) <+: xs := List.IsPrefix.trans ⟨_, hD⟩ hpx
    have hih := ih (n - 1) (t + 1) (pr ++ [u]) (y'.set t u) don' (wr.setCell ⟨A + 1, t, none⟩ (.int .i64 u)) (by omega) HQ.out hS1 (by simp [World.setCell]; omega)
     (by rw [List.take_add_one, List.take_set_of_le (Nat.le_refl _), HY'.out]; simp [hS'.ylen, htl]) (hJ _ _ _ _ (by omega) hJ' (Bar.setCell _ (by simp) (by simp))) hpre1
    rw [show ((t + 1 : Nat) : Int) = (t : Int) + 1 from by omega] at hih
    have HIH := hid hih
    have HD2 := hid hD
    have hkn : (k : Int) < nk := by omega
    have hk0 : (0 : Int) ≤ k := by omega
    clear hih ih hD hfn hpre1 hxk
    gi_wp2_with ((try refine ⟨hdd _, ?_⟩); gi_at_call 123; with_reducible refine HIH.out.mono ?_; clear HIH; rintro e W2 (⟨rfl, hJ2, hz2, y2, hS2, hy2⟩ | ⟨rfl, q, hq, hx2⟩))
    ·
     refine ⟨⟨k + 1, y2, _, by go_num, by omega, hS2, by rw [hsz1] at hz2; omega, hid ?_, hid ?_, hJ2, HD2⟩, by simp [intOf]; omega⟩
     ·
      obtain ⟨b2, off2, Ak2, nk2, ck2, x2, e1, hb2, hv2, hc2, hx2, _, _, _, hrow2⟩ := hS2.rows.2 t htl
      rw [HVS.out] at hv2
      simp only [Option.some.injEq, Prod.mk.injEq] at hv2
      obtain ⟨rfl, rfl, rfl⟩ := hv2
      rw [HX0.out] at hx2
      cases hx2
      exact hrow2
     ·
      have h3 : (y2.take (t + 1)).take t = (pr ++ [u]).take t := by rw [hy2]
      rw [List.take_take, Nat.min_eq_left (by omega), List.take_left' hprl] at h3
      exact h3
    ·
     go_ret
     exact .inr ⟨rfl, q, hq, hx2⟩
   ·
    have hks : k = nk := by omega
    subst hks
    have hD := HD.out
    rw [List.drop_eq_nil_of_le (by rw [HXL.out]; exact Nat.le_refl _)] at hD
    simp only [List.flatMap_nil, List.map_nil, List.append_nil] at hD
    have HDD := hid hD
    clear hD
    gi_wp2
    go_ret
    exact .inl ⟨rfl, by rw [← HDD.out]; exact hJ', hz', y', hS', HY'.out⟩

end Go.Proofs.Ytffbkbcjddigdaa

set_option linter.unusedSimpArgs false
set_option linter.unusedVariables false
namespace Go.Proofs.Ytffbkbcjddigdaa
open Go.RowKit Go.Shelf
attribute [local go_sem] Oper.semAt_some

set_option maxRecDepth 100000 in
set_option maxHeartbeats 4000000 in
theorem choices_seq (F : Fence) (hd : F.depth = none) (h124 : F.fn 122) (h125 : F.fn 123) (hro : F.round = none) (n pp L pc : Nat) (PA : Option Addr) (vs : List Hd) (ps : List (List Int)) (hL : L ≤ 100) (hpc : L ≤ pc) (R : Nat → Prop) (r1 : R pp) (w0 : World) (hRl : ∀ k, R k → k < w0.heap.size)
  (q1 : w0.heap[pp]? = some (.cells #[.slice PA L pc] 165 (0, 0))) (hrows : PR R w0 PA L vs ps) :
  SeqX F n Try.prog 122 #[.pointer (some ⟨pp, 0, none⟩)] (incE L) (incH L) R (M.choices ps) w0 := by
 intro l J Jx W hW hJ hJx hY h0
 have hdd : ∀ k : Nat, (F.depth.isSome = true → 1 ≤ k) := fun k h => by rw [hd] at h; cases h
 have hpl := heap_lt q1
 have hws := hW.size
 have hplW : pp < W.heap.size := by omega
 have c1 : W.cell? ⟨pp, 0, none⟩ = some (.slice PA L pc) := cell_in ((hW.block pp hpl).trans q1) 0
 have hch : ∀ W4, Ev W W4 → W4.heap.size = W.heap.size + 4 → ChS R W.heap.size pp L pc l PA vs ps (List.replicate L 0) W4 →
   CallsIn F (n - 1) Try.prog 123 #[.int .i64 0, .pointer (some ⟨pp, 0, none⟩), .pointer (some ⟨W.heap.size, 0, none⟩), .pointer (some ⟨W.heap.size + 1 + 1, 0, none⟩), .pointer (some ⟨W.heap.size + 1 + 1 + 1, 0, none⟩)] W4 fun e W' =>
    (∃ b, e = .returned (.bool b)) ∧ ∃ B, W.heap.size ≤ B ∧ (J B (M.choices ps) W' ∨ ∃ pre, pre <+: M.choices ps ∧ Jx B pre W') := by
  intro W4 hE hs hS
  have := chooseC_in F hd h125 hro l W.heap.size pp L pc PA vs ps hL hpc R r1 (fun k hk => by have := hRl k hk; omega) (M.choices ps) J Jx hJ
   (fun m B pre x W1 h1 h2 h3 h4 h5 => yield_any hd m (hY B pre x W1 h1 h2 h3 h4 h5)) ps (n - 1) 0 [] (List.replicate L 0) [] W4 (by rw [hrows.1]; omega) rfl hS (by omega) (by simp) (by rw [← hs]; exact h0 W4 hE) (by simp)
  refine CallsIn.mono this ?_
  rintro e W' (⟨rfl, hj, _, _⟩ | ⟨rfl, q, hq, hx⟩)
  ·
   exact ⟨⟨_, rfl⟩, W.heap.size + 4, by omega, .inl (by simpa using hj)⟩
  ·
   exact ⟨⟨_, rfl⟩, W.heap.size + 4, by omega, .inr ⟨q, hq, hx⟩⟩
 have HCH := hid hch
 have hmk := fun wx => make27 L hL wx
 have hal := alloc4 W (.cells #[.func (.yield l) #[] #[]] 105) (.cells (Array.replicate L (.int .i64 0)) 3) (.cells #[.slice (some ⟨W.heap.size + 1, 0, none⟩) L L] 23) (.cells #[.nilFunc] 119)
 have c9 := cell_in hal.2.2.2.1 0
 have f9 := frozen_in hal.2.2.2.1 0
 simp only [List.getElem?_toArray, List.getElem?_cons_zero] at c9
 clear hal
 have Q1 := hid ((hW.block pp hpl).trans q1)
 have QR := hid (hrows.same fun k hk hl => hW.block k (hRl k hk))
 clear hch hrows
 refine callsIn_of_wp Try.func122 rfl h124 ?_ hro
 simp only [Try.ntmps122, List.size_toArray, List.length_cons, List.length_nil, Nat.reduceAdd, Nat.reduceSub, Array.replicate_succ, Array.replicate_zero, List.push_toArray, List.append_toArray, List.nil_append, List.cons_append]
 have hcl := alloc4 W (.cells #[.func (.yield l) #[] #[]] 105) (.cells (Array.replicate L (.int .i64 0)) 3) (.cells #[.slice (some ⟨W.heap.size + 1, 0, none⟩) L L] 23) (.cells #[.func (.func 123) #[] #[.pointer (some ⟨pp, 0, none⟩), .pointer (some ⟨W.heap.size, 0, none⟩), .pointer (some ⟨W.heap.size + 1 + 1, 0, none⟩), .pointer (some ⟨W.heap.size + 1 + 1 + 1, 0, none⟩)]] 119)
 have hEv : Ev W ((((W.alloc (.cells #[.func (.yield l) #[] #[]] 105)).alloc (.cells (Array.replicate L (.int .i64 0)) 3)).alloc (.cells #[.slice (some ⟨W.heap.size + 1, 0, none⟩) L L] 23)).alloc (.cells #[.func (.func 123) #[] #[.pointer (some ⟨pp, 0, none⟩), .pointer (some ⟨W.heap.size, 0, none⟩), .pointer (some ⟨W.heap.size + 1 + 1, 0, none⟩), .pointer (some ⟨W.heap.size + 1 + 1 + 1, 0, none⟩)]] 119)) := Ev.alloc (Ev.alloc (Ev.alloc (Ev.alloc (Ev.refl _) _) _) _) _
 have hgo := HCH.out _ hEv hcl.2.2.2.2 ⟨hEv.heap Q1.out, hcl.1, by rw [hcl.2.1]; simp, hcl.2.2.1, hcl.2.2.2.1, by simp, QR.out.same fun k hk hl => hEv.block k hl⟩
 have HGO := hid hgo
 clear hcl hEv hgo
 gi_wp2_with ((try refine ⟨hdd _, ?_⟩); gi_at_call 123; with_reducible refine HGO.out.mono ?_; clear HGO; rintro e W1 ⟨⟨b, rfl⟩, hB⟩)
 go_end0
 exact ⟨⟨_, rfl⟩, hB⟩

set_option maxRecDepth 100000 in
set_option maxHeartbeats 1000000 in
theorem choices_c (PA : Option Addr) (L pc : Nat) (w : World) :
  Calls Try.prog 117 #[.slice PA L pc] w fun e w' => e = .returned (.func (.func 122) #[] #[.pointer (some ⟨w.heap.size, 0, none⟩)]) ∧ Ev w w' ∧ w'.heap[w.heap.size]? = some (.cells #[.slice PA L pc] 165 (0, 0)) := by
 have hal := alloc1 w (.cells #[.slice PA L pc] 165)
 have HAL := hid hal
 clear hal
 go_enter Try.func117, Try.ntmps117
 go_wp2
 go_ret
 exact ⟨rfl, Ev.alloc (Ev.refl _) _, HAL.out.1⟩

set_option maxRecDepth 100000 in
set_option maxHeartbeats 1000000 in
theorem allTruths_c (f : M.Cf) (Ag Aw Ab Ac Al : Option Addr) (ng cg nw cw nb cb nc cc nl cl : Nat) (w : World) :
  Calls Try.prog 97 #[.agg #[.int .i64 f.last, .slice Ag ng cg, .slice Aw nw cw, .slice Ab nb cb, .slice Ac nc cc, .int .i64 f.ripe, .int .i64 f.late, .int .i64 f.trod, .slice Al nl cl]] w fun e w' => e = .returned (.func (.func 115) #[] #[.pointer (some ⟨w.heap.size, 0, none⟩)]) ∧ Ev w w' ∧ w'.heap[w.heap.size]? = some (.cells #[.int .i64 f.last, .slice Ag ng cg, .slice Aw nw cw, .slice Ab nb cb, .slice Ac nc cc, .int .i64 f.ripe, .int .i64 f.late, .int .i64 f.trod, .slice Al nl cl] 38 (0, 0)) := by
 have hal := alloc1 w (.cells #[.int .i64 f.last, .slice Ag ng cg, .slice Aw nw cw, .slice Ab nb cb, .slice Ac nc cc, .int .i64 f.ripe, .int .i64 f.late, .int .i64 f.trod, .slice Al nl cl] 38)
 have HAL := hid hal
 clear hal
 go_enter Try.func97, Try.ntmps97
 go_wp2
 go_ret
 exact ⟨rfl, Ev.alloc (Ev.refl _) _, HAL.out.1⟩

end Go.Proofs.Ytffbkbcjddigdaa

set_option linter.unusedSimpArgs false
set_option linter.unusedVariables false
namespace Go.Proofs.Ytffbkbcjddigdaa
open Go.RowKit Go.Shelf
attribute [local go_sem] Oper.semAt_some

section
variable {l n : Nat} {P : Program} {ops : Array Oper} {Q : Exit → Act → World → Prop} {md : Region.Mode} {S : World → Prop}

/-- One operation of a region, in a round of loop l. -/
def wpOpR (l n : Nat) (P : Program) (ops : Array Oper) (Q : Exit → Act → World → Prop) (i : Nat) (K : Act → World → Prop) (a : Act) (w : World) : Prop :=
 match ops[i]? with
 | none => K a w
 | some o => if Region.wanted o (yielded ops a.tmps) then o.uponIn (Fence.wide.inRound l) n P a K Q ((execOp a.eval o).run P w) else K (a.put o.dst undef) w

theorem uponR_mono {o : Oper} {a : Act} {K K' : Act → World → Prop} (h : ∀ a w, K a w → K' a w) {r : Result Next} (hh : o.uponIn (Fence.wide.inRound l) n P a K Q r) : o.uponIn (Fence.wide.inRound l) n P a K' Q r := by
 cases r with
 | ok x w' =>
  cases x <;> simp only [Oper.uponIn] at hh ⊢ <;>
   first
    | exact h _ _ hh
    | exact ⟨hh.1, CallsIn.mono hh.2 (fun e w'' he => by cases e <;> first | exact h _ _ he | exact he)⟩
    | exact ⟨hh.1, RowsIn.mono hh.2 (fun _ _ he => h _ _ he)⟩
    | exact ⟨hh.1, RoundIn.mono hh.2 (fun e w'' he => by cases e <;> first | exact h _ _ he | exact he)⟩
 | halt x w' => cases x <;> simp only [Oper.uponIn] at hh ⊢ <;> exact hh

theorem wpOpR_mono {i : Nat} {a : Act} {w : World} {K K' : Act → World → Prop} (h : ∀ a w, K a w → K' a w) (hh : wpOpR l n P ops Q i K a w) : wpOpR l n P ops Q i K' a w := by
 unfold wpOpR at *
 split
 ·
  exact h _ _ (by simpa [*] using hh)
 ·
  rename_i o ho
  simp only [ho] at hh
  split
  ·
   rename_i hw; simp only [hw, if_true] at hh; exact uponR_mono h hh
  ·
   rename_i hw; simp only [hw] at hh; exact h _ _ hh

theorem wpOpR_to {i : Nat} {a : Act} {w : World} {K : Act → World → Prop} (hnd : ∀ (i : Nat) (o : Oper), ops[i]? = some o → ∀ c, o.op ≠ .defer c) (hh : wpOpR l n P ops Q i K a w) : wpOpIn (Fence.wide.inRound l) n P ops Q i K a w := by
 unfold wpOpR at hh
 unfold wpOpIn
 split at hh
 ·
  rename_i ho; simp only [ho]; exact hh
 ·
  rename_i o ho
  simp only [ho]
  split at hh
  ·
   rename_i hw
   rw [if_pos hw]
   unfold Oper.wpIn
   rw [Oper.semAt_eq _ _ _ (hnd i o ho)]
   exact ⟨fun _ _ => trivial, hh⟩
  ·
   rename_i hw
   rw [if_neg hw]
   exact ⟨fun _ _ => trivial, hh⟩

theorem wpOpR_putIf {j : Nat} {oi oj : Oper} {v : Value} (hj : ops[j]? = some oj) (hap : oi.apart ops oj = true)
  (hsi : ∀ cs b, oi.op ≠ .select cs b) (hsj : ∀ cs b, oj.op ≠ .select cs b)
  (hQ : ∀ c a w, Q (.panic c) (a.put oi.dst v) w → Q (.panic c) a w) {K : Act → World → Prop} {a : Act} {w : World}
  (hy : YieldsIf P ops S oi v a) (h : wpOpR l n P ops Q j K (a.put oi.dst v) w) :
  wpOpR l n P ops Q j (fun a' w' => YieldsIf P ops S oi v a' ∧ K (a'.put oi.dst v) w') a w := by
 obtain ⟨h1, h2, h3⟩ := Oper.apart_spec hap
 have keep : ∀ (a : Act), YieldsIf P ops S oi v a → ∀ u, YieldsIf P ops S oi v (a.put oj.dst u) := fun a hy u =>
  hy.of_same (execOp_put oi hsi a oj.dst u h3) (wanted_put oi a oj.dst u h3)
 have keepD : ∀ d, YieldsIf P ops S oi v { a with defers := d :: a.defers } := fun d => hy.of_same rfl rfl
 unfold wpOpR at *
 simp only [hj] at *
 rw [wanted_put oj a oi.dst v h1] at h
 split
 ·
  rename_i hw
  simp only [hw, if_true] at h
  rw [execOp_put oj hsj a oi.dst v h1] at h
  generalize (execOp a.eval oj).run P w = r at *
  cases r with
  | ok x w' =>
   cases x <;> simp only [Oper.uponIn] at h ⊢
   case value u => exact ⟨keep a hy u, by rw [← Act.put_comm a v u h2]; exact h⟩
   case skip => exact ⟨keep a hy _, by rw [← Act.put_comm a v undef h2]; exact h⟩
   case defer d =>
    refine ⟨keep _ (keepD d) _, ?_⟩
    rw [← Act.put_comm _ v undef h2, ← Act.put_defers]
    exact h
   case enter f args =>
    refine ⟨h.1, CallsIn.mono h.2 fun e w'' he => ?_⟩
    cases e with
    | returned u => exact ⟨keep a hy u, by rw [← Act.put_comm a v u h2]; exact he⟩
    | panicked c => exact hQ _ _ _ he
    | outgrown => exact he
   case row row args => exact ⟨h.1, RowsIn.mono h.2 fun u w'' he => ⟨keep a hy u, by rw [← Act.put_comm a v u h2]; exact he⟩⟩
   case round l f tmps assign body =>
    refine ⟨h.1, RoundIn.mono h.2 fun e w'' he => ?_⟩
    cases e with
    | returned u => exact ⟨keep a hy u, by rw [← Act.put_comm a v u h2]; exact he⟩
    | panicked c => exact hQ _ _ _ he
    | outgrown => exact he
  | halt x w' =>
   cases x <;> simp only [Oper.uponIn] at h ⊢
   case panic u => exact hQ _ _ _ h
 ·
  rename_i hw
  simp only [hw] at h
  exact ⟨keep a hy _, by rw [← Act.put_comm a v undef h2]; exact h⟩

/-- Whatever order is picked from here on, in a round of loop l, and S holds behind every operation that is carried out. -/
def wpAnyR (l n : Nat) (P : Program) (md : Region.Mode) (ops : Array Oper) (Q : Exit → Act → World → Prop) (S : World → Prop) : Nat → Array Bool → Act → World → Prop
 | 0, listed, a, w => Region.ready md ops listed = [] ∧ Q .normal a w
 | fuel + 1, listed, a, w =>
  (Region.ready md ops listed = [] → Q .normal a w) ∧
  ∀ i ∈ Region.ready md ops listed, wpOpR l n P ops Q i (fun a' w' => S w' ∧ wpAnyR l n P md ops Q S fuel (listed.setIfInBounds i true) a' w') a w

theorem wpAnyR_in (hnd : ∀ (i : Nat) (o : Oper), ops[i]? = some o → ∀ c, o.op ≠ .defer c) : ∀ (fuel : Nat) (listed : Array Bool) (a : Act) (w : World), wpAnyR l n P md ops Q S fuel listed a w → wpAnyIn (Fence.wide.inRound l) n P md ops Q fuel listed a w
 | 0, _, _, _, h => h
 | fuel + 1, _, _, _, h => ⟨h.1, fun i hi => wpOpR_to hnd (wpOpR_mono (fun a' w' h' => wpAnyR_in hnd fuel _ a' w' h'.2) (h.2 i hi))⟩

theorem YieldsIf.wpOpR {i : Nat} {o : Oper} {v : Value} {a : Act} (hi : ops[i]? = some o) (hy : YieldsIf P ops S o v a)
  {K : Act → World → Prop} {w : World} (hS : S w) (h : K (a.put o.dst v) w) : wpOpR l n P ops Q i K a w := by
 unfold Go.Proofs.Ytffbkbcjddigdaa.wpOpR
 simp only [hi]
 rcases hy with ⟨hw, hv⟩ | ⟨hw, rfl⟩
 ·
  simp only [hw, if_true, hv w hS, Oper.uponIn]; exact h
 ·
  simp only [hw, Bool.false_eq_true, if_false]; exact h

theorem wpAnyR_first {i : Nat} {oi : Oper} {v : Value} (hi : ops[i]? = some oi) (hsel : ∀ (j : Nat) (o : Oper) cs b, ops[j]? = some o → o.op ≠ .select cs b)
  (hQ : ∀ c a w, Q (.panic c) (a.put oi.dst v) w → Q (.panic c) a w) :
  ∀ (fuel : Nat) (listed : Array Bool) (a : Act) (w : World),
   (∀ j oj, ops[j]? = some oj → j ≠ i → listed.getD j true = false → (∀ e ∈ oj.after, Region.binds md e = true → e.on ≠ i) → oi.apart ops oj = true) →
   i ∈ Region.ready md ops listed → YieldsIf P ops S oi v a → S w →
   wpAnyR l n P md ops Q S fuel (listed.setIfInBounds i true) (a.put oi.dst v) w → wpAnyR l n P md ops Q S (fuel + 1) listed a w := by
 intro fuel
 induction fuel with
 | zero =>
  intro listed a w _ hr hy hS H
  refine ⟨fun h => (by rw [h] at hr; cases hr), fun j hj => ?_⟩
  by_cases hji : j = i
  ·
   subst hji; exact YieldsIf.wpOpR hi hy hS ⟨hS, H⟩
  ·
   have := ready_mono hj hji
   rw [H.1] at this
   cases this
 | succ fuel ih =>
  intro listed a w hfree hr hy hS H
  refine ⟨fun h => (by rw [h] at hr; cases hr), fun j hj => ?_⟩
  by_cases hji : j = i
  ·
   subst hji; exact YieldsIf.wpOpR hi hy hS ⟨hS, H⟩
  ·
   have h1 := H.2 j (ready_mono hj hji)
   obtain ⟨hjun, oj, hoj, hall⟩ := mem_ready.1 hj
   have hnot : ∀ e ∈ oj.after, Region.binds md e = true → e.on ≠ i := fun e he hb heq => by
    have h1 := hall e he hb
    have h0 := (mem_ready.1 hr).1
    rw [heq] at h1
    rcases Nat.lt_or_ge i listed.size with h' | h'
    ·
     simp [h'] at h0 h1; rw [h0] at h1; cases h1
    ·
     simp [Array.getElem?_eq_none h'] at h1
   have h2 := wpOpR_putIf hoj (hfree j oj hoj hji hjun hnot) (fun cs b => hsel i oi cs b hi) (fun cs b => hsel j oj cs b hoj) hQ hy h1
   have hfree' : ∀ k ok, ops[k]? = some ok → k ≠ i → (listed.setIfInBounds j true).getD k true = false →
     (∀ e ∈ ok.after, Region.binds md e = true → e.on ≠ i) → oi.apart ops ok = true := fun k ok hk hki hun hno => by
    refine hfree k ok hk hki ?_ hno
    by_cases hjk : j = k
    ·
     subst hjk; exact hjun
    ·
     rw [getD_set_ne true hjk] at hun; exact hun
   refine wpOpR_mono (fun a' w' h3 => ⟨h3.2.1, ih (listed.setIfInBounds j true) a' w' hfree' (ready_mono hr (Ne.symm hji)) h3.1 h3.2.1 ?_⟩) h2
   rw [Array.setIfInBounds_comm _ _ hji]
   exact h3.2.2

theorem wpAnyR_take {i : Nat} {oi : Oper} {v : Value} {fuel : Nat} {listed : Array Bool} {a : Act} {w : World} (hi : ops[i]? = some oi)
  (hs : Region.noSelect ops = true) (hf : Region.free md ops listed i = true) (hr : (Region.ready md ops listed).contains i = true)
  (hQ : ∀ c a w, Q (.panic c) (a.put oi.dst v) w → Q (.panic c) a w) (hy : YieldsIf P ops S oi v a) (hS : S w)
  (h : wpAnyR l n P md ops Q S fuel (listed.setIfInBounds i true) (a.put oi.dst v) w) : wpAnyR l n P md ops Q S (fuel + 1) listed a w :=
 wpAnyR_first hi (Region.noSelect_spec hs) hQ fuel listed a w (Region.free_spec hi hf) (by simpa using hr) hy hS h

theorem wpAnyR_one {i : Nat} {o : Oper} {fuel : Nat} {listed : Array Bool} {a : Act} {w : World} (ho : ops[i]? = some o) (hr : Region.ready md ops listed = [i]) (hw : Region.wanted o (yielded ops a.tmps) = true)
  (h : ∀ K : Act → World → Prop, Hid (∀ a' w', S w' → (S w' → wpAnyR l n P md ops Q S fuel (listed.setIfInBounds i true) a' w') → K a' w') → o.uponIn (Fence.wide.inRound l) n P a K Q ((execOp a.eval o).run P w)) : wpAnyR l n P md ops Q S (fuel + 1) listed a w := by
 refine ⟨fun h0 => (by rw [hr] at h0; cases h0), fun j hj => ?_⟩
 rw [hr] at hj
 obtain rfl : j = i := by simpa using hj
 unfold wpOpR
 rw [ho]
 simp only [hw, if_true]
 exact h _ (fun a' w' hS hk => ⟨hS, hk hS⟩)

theorem wpAnyR_done {listed : Array Bool} {a : Act} {w : World} (hr : Region.ready md ops listed = []) (h : Q .normal a w) : ∀ fuel, wpAnyR l n P md ops Q S fuel listed a w
 | 0 => ⟨hr, h⟩
 | _ + 1 => ⟨fun _ => h, by rw [hr]; simp⟩

theorem wp_region_R {id : Nat} {a : Act} {w : World} (hm : P.follows .mixedOrders = true) (hnd : ops.toList.all noDefer = true) (hS : S w.drew)
  (h : S w.drew → wpAnyR l n P .any ops Q S ops.size (Array.replicate ops.size false) a w.drew) : (Code.region id ops true).wpIn (Fence.wide.inRound l) n P Q a w :=
 wpIn_region_any hm (wpAnyR_in (noDefer_spec hnd) _ _ _ _ (h hS))
end

end Go.Proofs.Ytffbkbcjddigdaa

set_option linter.unusedSimpArgs false
set_option linter.unusedVariables false
namespace Go.Proofs.Ytffbkbcjddigdaa
open Go.RowKit Go.Shelf
attribute [local go_sem] Oper.semAt_some

/-- The contract of an iterator that hands over the list xs, each thing as values that lie wherever it made them. -/
def SeqY {α : Type} (F : Fence) (n : Nat) (P : Program) (g : Nat) (lb : Array Value) (Hx : Nat → Nat → α → Array Value → World → Prop) (R : Nat → Prop) (xs : List α) (w : World) : Prop :=
 ∀ (l : Nat) (J Jx : Nat → List α → World → Prop) (W : World), Below w.heap.size w W → Abides W.heap.size J → Abides W.heap.size Jx →
  (∀ B pre x av W1, W.heap.size ≤ B → B ≤ W1.heap.size → J B pre W1 → Hx W.heap.size B x av W1 → pre ++ [x] <+: xs → YieldAt F (n - 1) P l av W1 fun e W' =>
   (e = .returned (.bool true) ∧ J B (pre ++ [x]) W' ∧ Kept R W.heap.size B W1 W') ∨ (e = .returned (.bool false) ∧ Jx B (pre ++ [x]) W' ∧ Kept (fun _ => False) W.heap.size B W1 W')) →
  (∀ W', Ev W W' → J W'.heap.size [] W') →
  CallsIn F n P g (#[.func (.yield l) #[] #[]] ++ lb) W fun e W' => (∃ v, e = .returned v) ∧ ∃ B, W.heap.size ≤ B ∧ (J B xs W' ∨ ∃ pre, pre <+: xs ∧ Jx B pre W')

theorem rangeY {F : Fence} {n : Nat} {P : Program} {α : Type} {g : Operand} {ps : Array Tmp} {assign body : Code} {Q : Exit → Act → World → Prop} {a : Act} {w : World}
  (hro : F.round = none) (h1 : 1 ≤ n) {gf : Nat} {lb : Array Value} (hg : a.eval g = .func (.func gf) #[] lb) (hFg : F.fn gf) (eg : ∀ args w, (callFunc gf args).run P w = .ok (.enter gf args) w)
  {Hx : Nat → Nat → α → Array Value → World → Prop} {R : Nat → Prop} {xs : List α} {w0 : World} (hseq : SeqY F (n - 1) P gf lb Hx R xs w0) (hb0 : Below w0.heap.size w0 w) (hR : ∀ k, R k → k < w.heap.size) (hps : ∀ A B x av W, Hx A B x av W → av.size = ps.size)
  (hHx : ∀ A B x av X Y, Hx A B x av X → X.heap.size ≤ Y.heap.size → (∃ r, X.heap[w.heap.size + 1]? = some (.loop r)) → (∀ k, k ≠ w.heap.size + 1 → k < X.heap.size → Y.heap[k]? = X.heap[k]?) → Hx A B x av Y)
  (I : Nat → List α → World → Prop) (Ix : Nat → Code → List α → World → Prop) (Ax : Nat → α → Act → World → Prop)
  (hI : Abides w.heap.size I) (hIx : ∀ c, Abides w.heap.size (fun B => Ix B c)) (hAx : ∀ a', Abides w.heap.size (fun B x => Ax B x a'))
  (h0 : ∀ W', Ev w W' → I W'.heap.size [] W')
  (hassign : ∀ (l B : Nat) (pre : List α) (x : α) (av : Array Value) (W : World) (K : Act → World → Prop), w.heap.size + 2 ≤ B → B ≤ W.heap.size → I B pre W → Hx (w.heap.size + 2) B x av W → (∀ a' W', Ev W W' → Ax B x a' W' → K a' W') →
   assign.wpIn (F.inRound l) (n - 1 - 1) P (Exit.then K (fun _ _ _ => False)) { tmps := (ps.zip av).foldl (fun t (p, v) => t.setIfInBounds p v) a.tmps, defers := [] } W)
  (hbody : ∀ (l B : Nat) (pre : List α) (x : α) (av : Array Value) (a' : Act) (W : World), w.heap.size + 2 ≤ B → B ≤ W.heap.size → I B pre W → Ax B x a' W → Hx (w.heap.size + 2) B x av W → pre ++ [x] <+: xs → body.wpIn (F.inRound l) (n - 1 - 1) P (postX R w.heap.size B I Ix (pre ++ [x]) W) a' W)
  (hdone : ∀ (B : Nat) (W : World), w.heap.size + 2 ≤ B → I B xs W → W.heap[w.heap.size]? = some (.deferred (some [])) → Q .normal { a with defers := { target := .collected w.heap.size, args := #[] } :: a.defers } W)
  (hstop : ∀ (B : Nat) (c : Code) (pre : List α) (W : World), w.heap.size + 2 ≤ B → pre <+: xs → Ix B c pre W → W.heap[w.heap.size]? = some (.deferred (some [])) → c.wpIn F n P Q { a with defers := { target := .collected w.heap.size, args := #[] } :: a.defers } W) :
  (Code.rangeFunc g ps assign body).wpIn F n P Q a w := by
 refine wpIn_rangeFunc fun fn hfn => ?_
 rw [hro]
 obtain ⟨rec, hrec⟩ : ∃ rec : LoopState → Option Code → Loop, rec = fun st pe => { state := st, pending := pe, fn, tmps := a.tmps, params := ps, assign, body, defers := w.heap.size } := ⟨_, rfl⟩
 obtain ⟨V, hV⟩ : ∃ V, (w.alloc (.deferred (some []))).alloc (.loop (rec .ready none)) = V := ⟨_, rfl⟩
 have hVe : Ev w V := by rw [← hV]; exact Ev.alloc (Ev.alloc (Ev.refl _) _) _
 have hal := alloc2 w (.deferred (some [])) (.loop (rec .ready none))
 rw [hV] at hal
 obtain ⟨hD, hL, hVs⟩ := hal
 refine ⟨w.heap.size + 1, [{ target := .collected w.heap.size, args := #[] }], V, { target := .fn (.func gf) lb, args := #[.func (.yield (w.heap.size + 1)) #[] #[]] }, V, gf,
  #[.func (.yield (w.heap.size + 1)) #[] #[]] ++ lb, V, ?_, ?_, ?_, ?_, fun _ => h1, ?_⟩
 ·
  rw [← hV, hrec]; exact run_enterLoop_outer _ _ _ _ _
 ·
  simp only [resolve, hg]
  simp [go_sem]
 ·
  intro f' hf'; simp [Target.leads] at hf'; subst hf'; exact hFg
 ·
  simp [invoke, go_sem, eg]
 have out : ∀ {B : Nat} {X Y : World}, V.heap.size ≤ B → Bar V.heap.size B X Y → Bar w.heap.size B X Y := fun _ h => h.wider (by omega)
 have keep : ∀ {B k : Nat} {X Y : World} {o : Obj}, Bar V.heap.size B X Y → k < V.heap.size → X.heap[k]? = some o → Y.heap[k]? = some o := fun h hk ho => (h.block _ (Array.getElem?_eq_some_iff.1 ho).1 (by omega)).trans ho
 refine (hseq (w.heap.size + 1)
  (fun B pre W => I B pre W ∧ W.heap[w.heap.size + 1]? = some (.loop (rec .ready none)) ∧ W.heap[w.heap.size]? = some (.deferred (some [])))
  (fun B pre W => ∃ c, Ix B c pre W ∧ W.heap[w.heap.size + 1]? = some (.loop (rec .done (some c))) ∧ W.heap[w.heap.size]? = some (.deferred (some [])))
  V (hb0.trans (Below.evr hVe hb0.size))
  (fun B s X Y hB ⟨h, hl, hd⟩ hb => ⟨hI B s X Y (by omega) h (out hB hb), keep hb (by omega) hl, keep hb (by omega) hd⟩)
  (fun B s X Y hB ⟨c, h, hl, hd⟩ hb => ⟨c, hIx c B s X Y (by omega) h (out hB hb), keep hb (by omega) hl, keep hb (by omega) hd⟩)
  ?_ (fun W' hW' => ⟨h0 W' (hVe.trans hW'), hW'.heap hL, hW'.heap hD⟩)).mono ?_
 ·
  rintro B pre x av W hB hBW ⟨hi, hl, hd⟩ hhx hpre
  rw [hVs] at hhx ⊢
  have hy := run_yield (P := P) (args := av) hl (by rw [hrec]; exact hps _ _ _ _ _ hhx)
  rw [hrec] at hy
  refine ⟨fn, _, assign, body, hy, roundIn_of_wpIn hfn (hassign _ B pre x av W _ (by omega) hBW hi hhx ?_)⟩
  intro a' Wa hEa hax
  have hia := hI B pre W Wa (by omega) hi (Bar.ev hEa)
  have hla := hEa.heap hl
  have hda := hEa.heap hd
  have hlt := (Array.getElem?_eq_some_iff.1 hla).1
  refine ⟨_, run_beginRound hla (by rw [hrec]), ?_⟩
  generalize hWb : Wa.putObj (w.heap.size + 1) (.loop { rec .ready none with state := .busy }) = Wb
  have hbb : Bar w.heap.size B Wa Wb := by rw [← hWb]; exact Bar.putObj _ (by omega) (by omega)
  have hlb : Wb.heap[w.heap.size + 1]? = some (.loop { rec .ready none with state := .busy }) := by rw [← hWb]; exact World.putObj_heap_same hlt
  have hdb : Wb.heap[w.heap.size]? = some (.deferred (some [])) := by rw [← hWb]; exact (World.putObj_heap_other (by omega)).trans hda
  have hsb : Wb.heap.size = Wa.heap.size := by rw [← hWb]; simp
  have hoth : ∀ k, k ≠ w.heap.size + 1 → Wb.heap[k]? = Wa.heap[k]? := fun k hk => by rw [← hWb]; exact World.putObj_heap_other hk
  refine wpIn_mono (hbody _ B pre x av a' Wb (by omega) (by have := hEa.size; omega) (hI B pre _ _ (by omega) hia hbb) (hAx a' B x _ _ (by omega) hax hbb) (hHx _ _ _ _ _ _ hhx (by have := hEa.size; omega) ⟨_, hl⟩ (fun k h1 h2 => (hoth k h1).trans (hEa.block k h2))) hpre) ?_
  have fin : ∀ (R' : Nat → Prop) (jump : Option Code) (W3 : World), Kept R' w.heap.size B Wb W3 → ∃ W4, W4 = W3.putObj (w.heap.size + 1) (.loop (rec (if jump.isNone then .ready else .done) jump)) ∧
    (Instr.endRound (w.heap.size + 1) jump).run P W3 = .ok (.bool jump.isNone) W4 ∧ Bar w.heap.size B W3 W4 ∧
    W4.heap[w.heap.size + 1]? = some (.loop (rec (if jump.isNone then .ready else .done) jump)) ∧ W4.heap[w.heap.size]? = some (.deferred (some [])) := fun R' jump W3 hk3 => by
   have hl3 : W3.heap[w.heap.size + 1]? = some (.loop { rec .ready none with state := .busy }) := (hk3.block _ (by omega) (.inr (by omega))).trans hlb
   have hd3 : W3.heap[w.heap.size]? = some (.deferred (some [])) := (hk3.block _ (by omega) (.inr (by omega))).trans hdb
   have he := run_endRound (P := P) jump hl3
   rw [hrec] at he ⊢
   exact ⟨_, rfl, he, Bar.putObj _ (by omega) (by omega), World.putObj_heap_same (Array.getElem?_eq_some_iff.1 hl3).1, (World.putObj_heap_other (by omega)).trans hd3⟩
  rintro e a3 W3 hp
  cases e with
  | normal =>
   obtain ⟨hk3, hi3⟩ := hp
   obtain ⟨W4, hW4, hr, hb4, hl4, hd4⟩ := fin R none W3 hk3
   refine ⟨_, _, hr, .inl ⟨rfl, ⟨hI _ _ _ _ (by omega) hi3 hb4, hl4, hd4⟩, ⟨?_, fun k hk hor => ?_⟩⟩⟩
   ·
    have := hb4.size; have := hk3.size; have := hEa.size; omega
   ·
    have hk1 : k ≠ w.heap.size + 1 := by
     rcases hor with hr | hr
     ·
      have := hR k hr; omega
     ·
      omega
    have hkk : R k ∨ (w.heap.size ≤ k ∧ k < B) := by
     rcases hor with hr | hr
     ·
      exact .inl hr
     ·
      exact .inr (by omega)
    rw [hW4, World.putObj_heap_other hk1, hk3.block k (by have := hEa.size; omega) hkk, hoth k hk1]
    exact hEa.block k hk
  | ret =>
   obtain ⟨hk3, hi3⟩ := hp
   obtain ⟨W4, hW4, hr, hb4, hl4, hd4⟩ := fin _ (some .ret) W3 hk3
   refine ⟨_, _, hr, .inr ⟨rfl, ⟨.ret, hIx _ _ _ _ _ (by omega) hi3 hb4, hl4, hd4⟩, ⟨by have := hb4.size; have := hk3.size; have := hEa.size; omega, fun k hk hor => ?_⟩⟩⟩
   have hk2 : w.heap.size + 2 ≤ k ∧ k < B := by
    rcases hor with hf | h
    ·
     exact hf.elim
    ·
     exact h
   rw [hW4, World.putObj_heap_other (by omega), hk3.block k (by have := hEa.size; omega) (.inr (by omega)), hoth k (by omega)]
   exact hEa.block k hk
  | exit id =>
   obtain ⟨hk3, hi3⟩ := hp
   obtain ⟨W4, hW4, hr, hb4, hl4, hd4⟩ := fin _ (some (.exit id)) W3 hk3
   refine ⟨_, _, hr, .inr ⟨rfl, ⟨(.exit id), hIx _ _ _ _ _ (by omega) hi3 hb4, hl4, hd4⟩, ⟨by have := hb4.size; have := hk3.size; have := hEa.size; omega, fun k hk hor => ?_⟩⟩⟩
   have hk2 : w.heap.size + 2 ≤ k ∧ k < B := by
    rcases hor with hf | h
    ·
     exact hf.elim
    ·
     exact h
   rw [hW4, World.putObj_heap_other (by omega), hk3.block k (by have := hEa.size; omega) (.inr (by omega)), hoth k (by omega)]
   exact hEa.block k hk
  | goto t =>
   obtain ⟨hk3, hi3⟩ := hp
   obtain ⟨W4, hW4, hr, hb4, hl4, hd4⟩ := fin _ (some (.goto t)) W3 hk3
   refine ⟨_, _, hr, .inr ⟨rfl, ⟨(.goto t), hIx _ _ _ _ _ (by omega) hi3 hb4, hl4, hd4⟩, ⟨by have := hb4.size; have := hk3.size; have := hEa.size; omega, fun k hk hor => ?_⟩⟩⟩
   have hk2 : w.heap.size + 2 ≤ k ∧ k < B := by
    rcases hor with hf | h
    ·
     exact hf.elim
    ·
     exact h
   rw [hW4, World.putObj_heap_other (by omega), hk3.block k (by have := hEa.size; omega) (.inr (by omega)), hoth k (by omega)]
   exact hEa.block k hk
  | panic ch => exact hp.elim
  | outgrown => exact hp.elim
 ·
  rintro e W2 ⟨⟨v, rfl⟩, B, hB, ⟨hi, hl, hd⟩ | ⟨pre, hpre, c, hi, hl, hd⟩⟩
  ·
   exact ⟨none, _, by have := run_endLoop (P := P) hl (by rw [hrec]; simp); rw [hrec] at this; exact this, hdone B _ (by omega) (hI _ _ _ _ (by omega) hi (Bar.putObj _ (by omega) (by omega))) ((World.putObj_heap_other (by omega)).trans hd)⟩
  ·
   exact ⟨some c, _, by have := run_endLoop (P := P) hl (by rw [hrec]; simp); rw [hrec] at this; exact this, hstop B c pre _ (by omega) hpre (hIx _ _ _ _ _ (by omega) hi (Bar.putObj _ (by omega) (by omega))) ((World.putObj_heap_other (by omega)).trans hd)⟩


end Go.Proofs.Ytffbkbcjddigdaa
