import Derived.Test.YtgimcephbeajlaaC5
set_option linter.unusedSimpArgs false
set_option linter.unusedVariables false
namespace Go.Proofs.Ytgimcephbeajlaa
open Go.RowKit Go.Shelf
attribute [local go_sem] Oper.semAt_some


/-- All lists with one element of each part. -/
def M.choices : List (List Int) → List (List Int)
 | [] => [[]]
 | p :: ps => p.flatMap fun x => (M.choices ps).map (x :: ·)

/-- The parts from which an iterator chooses, in blocks that R names. -/
def PR (R : Nat → Prop) (W : World) (PA : Option Addr) (L : Nat) (vs : List Hd) (ps : List (List Int)) : Prop :=
 ps.length = L ∧ ∀ t, t < L → ∃ b off Ak nk ck x, PA = some ⟨b, off, none⟩ ∧ R b ∧ vs[t]? = some (Ak, nk, ck) ∧ W.cell? ⟨b, off + t, none⟩ = some (.slice Ak nk ck) ∧ ps[t]? = some x ∧ x.length = nk ∧ nk ≤ ck ∧ nk ≤ 1000 ∧
  ∀ j y, x[j]? = some y → ∃ b' o', Ak = some ⟨b', o', none⟩ ∧ R b' ∧ W.cell? ⟨b', o' + j, none⟩ = some (.int .i64 y)
theorem cell_lt {W : World} {b o : Nat} {v : Value} (h : W.cell? ⟨b, o, none⟩ = some v) : b < W.heap.size := by
 unfold World.cell? at h
 split at h
 ·
  rename_i hb; exact heap_lt hb
 ·
  cases h
theorem PR.same {R : Nat → Prop} {X Y : World} {PA : Option Addr} {L : Nat} {vs : List Hd} {ps : List (List Int)} (h : PR R X PA L vs ps) (hk : ∀ k, R k → k < X.heap.size → Y.heap[k]? = X.heap[k]?) : PR R Y PA L vs ps := by
 refine ⟨h.1, fun t ht => ?_⟩
 obtain ⟨b, off, Ak, nk, ck, x, h1, h2, hv, h3, h4, h5, h6, h7, h8⟩ := h.2 t ht
 refine ⟨b, off, Ak, nk, ck, x, h1, h2, hv, (World.cell?_of_block (w := X) (hk b h2 (cell_lt h3))).trans h3, h4, h5, h6, h7, fun j y hj => ?_⟩
 obtain ⟨b', o', g1, g2, g3⟩ := h8 j y hj
 exact ⟨b', o', g1, g2, (World.cell?_of_block (w := X) (hk b' g2 (cell_lt g3))).trans g3⟩

/-- The cells of the iterator over choices: its own four blocks from A on, and the parts that it has captured. -/
structure ChS (R : Nat → Prop) (A pp L pc l : Nat) (PA : Option Addr) (vs : List Hd) (ps : List (List Int)) (y : List Int) (W : World) : Prop where
 par : W.heap[pp]? = some (.cells #[.slice PA L pc] 167 (0, 0))
 yld : W.heap[A]? = some (.cells #[.func (.yield l) #[] #[]] 107 (0, 0))
 arr : W.heap[A + 1]? = some (.cells (y.map (Value.int .i64)).toArray 3 (0, 0))
 lst : W.heap[A + 2]? = some (.cells #[.slice (some ⟨A + 1, 0, none⟩) L L] 25 (0, 0))
 cho : W.heap[A + 3]? = some (.cells #[.func (.func 136) #[] #[.pointer (some ⟨pp, 0, none⟩), .pointer (some ⟨A, 0, none⟩), .pointer (some ⟨A + 2, 0, none⟩), .pointer (some ⟨A + 3, 0, none⟩)]] 130 (0, 0))
 ylen : y.length = L
 rows : PR R W PA L vs ps

theorem ChS.kept {R : Nat → Prop} {A pp L pc l : Nat} {PA : Option Addr} {vs : List Hd} {ps : List (List Int)} {y : List Int} {X Y : World} {B : Nat} (h : ChS R A pp L pc l PA vs ps y X) (hk : Kept R A B X Y) (h1 : R pp) (hB : A + 4 ≤ B) : ChS R A pp L pc l PA vs ps y Y :=
 have g : ∀ {k : Nat} {o : Obj}, X.heap[k]? = some o → (R k ∨ (A ≤ k ∧ k < B)) → Y.heap[k]? = some o := fun h0 hor => (hk.block _ (heap_lt h0) hor).trans h0
 ⟨g h.par (.inl h1), g h.yld (.inr (by omega)), g h.arr (.inr (by omega)), g h.lst (.inr (by omega)), g h.cho (.inr (by omega)), h.ylen, h.rows.same fun k hr hl => hk.block k hl (.inl hr)⟩

theorem ChS.sl {R : Nat → Prop} {A pp L pc l B : Nat} {PA : Option Addr} {vs : List Hd} {ps : List (List Int)} {y : List Int} {W : World} (h : ChS R A pp L pc l PA vs ps y W) (hB : A + 4 ≤ B) (hL : L ≤ 100) : Sl ics 1 W B (some ⟨A + 1, 0, none⟩) L L y := by
 refine ⟨h.ylen, Nat.le_refl _, by omega, fun _ => ⟨A + 1, 0, rfl, by omega, fun k x hk j v hj => ?_⟩⟩
 have hv : j = 0 ∧ v = .int .i64 x := by
  rcases j with _ | j
  ·
   simp [ics] at hj; exact ⟨rfl, hj.symm⟩
  ·
   simp [ics] at hj
 obtain ⟨rfl, rfl⟩ := hv
 rw [show 0 + k * 1 + 0 = k from by omega, cell_in h.arr k]
 simp [hk]

set_option maxRecDepth 100000 in
set_option maxHeartbeats 4000000 in
theorem chooseC_in (F : Fence) (hd : F.depth = none) (h125 : F.fn 136) (hro : F.round = none) (l A pp L pc : Nat) (PA : Option Addr) (vs : List Hd) (ps : List (List Int)) (hL : L ≤ 100) (hpc : L ≤ pc) (R : Nat → Prop) (r1 : R pp) (hRA : ∀ k, R k → k < A) (xs : List (List Int))
  (J Jx : Nat → List (List Int) → World → Prop) (hJ : Abides A J)
  (hY : ∀ n B pre x W1, A ≤ B → B ≤ W1.heap.size → J B pre W1 → incH L A B x W1 → pre ++ [x] <+: xs → YieldAt F n Try.prog l (incE L A x) W1 fun e W' =>
   (e = .returned (.bool true) ∧ J B (pre ++ [x]) W' ∧ Kept R A B W1 W') ∨ (e = .returned (.bool false) ∧ Jx B (pre ++ [x]) W')) (qs : List (List Int)) :
  ∀ (n : Nat) (t : Nat) (pr y : List Int) (don : List (List Int)) (W : World), t + qs.length = L → ps.drop t = qs → ChS R A pp L pc l PA vs ps y W → A + 4 ≤ W.heap.size → y.take t = pr → J (A + 4) don W → don ++ (M.choices qs).map (pr ++ ·) <+: xs →
   CallsIn F n Try.prog 136 #[.int .i64 t, .pointer (some ⟨pp, 0, none⟩), .pointer (some ⟨A, 0, none⟩), .pointer (some ⟨A + 2, 0, none⟩), .pointer (some ⟨A + 3, 0, none⟩)] W fun e W' =>
    (e = .returned (.bool true) ∧ J (A + 4) (don ++ (M.choices qs).map (pr ++ ·)) W' ∧ W.heap.size ≤ W'.heap.size ∧ ∃ y', ChS R A pp L pc l PA vs ps y' W' ∧ y'.take t = pr) ∨ (e = .returned (.bool false) ∧ ∃ q, q <+: xs ∧ Jx (A + 4) q W') := by
 have hdd : ∀ k : Nat, (F.depth.isSome = true → 1 ≤ k) := fun k h => by rw [hd] at h; cases h
 induction qs with
 | nil =>
  intro n t pr y don W ht hqs hS hz hy hJd hpx
  simp only [List.length_nil, Nat.add_zero] at ht
  subst ht
  have hyl := hS.ylen
  have hpr : y = pr := by rw [← hy, List.take_of_length_le (by omega)]
  subst hpr
  simp only [M.choices, List.map_cons, List.map_nil, List.append_nil] at hpx ⊢
  have hr := hY (n - 1) (A + 4) don y W (by omega) hz hJd ⟨Nat.le_refl _, hS.sl (Nat.le_refl _) hL⟩ hpx
  obtain ⟨fn, tmps, assign, body, hyy, hR⟩ := hr
  unfold incE at hyy
  have c1 := cell_in hS.par 0
  have c2 := cell_in hS.yld 0
  have c3 := cell_in hS.lst 0
  simp only [List.getElem?_toArray, List.getElem?_cons_zero] at c1 c2 c3
  refine callsIn_of_wp Try.func136 rfl h125 ?_ hro
  simp only [Try.ntmps136, List.size_toArray, List.length_cons, List.length_nil, Nat.reduceAdd, Nat.reduceSub, Array.replicate_succ, Array.replicate_zero, List.push_toArray, List.append_toArray, List.nil_append, List.cons_append]
  clear hqs hyl hy
  gi_wp2_with (((try refine ⟨hdd _, ?_⟩); refine hR.mono ?_; clear hR; rintro e W2 (⟨rfl, hJ2, hk2⟩ | ⟨rfl, hx2⟩)))
  ·
   go_ret
   exact .inl ⟨rfl, hJ2, hk2.size, y, hS.kept hk2 r1 (Nat.le_refl _), by rw [List.take_of_length_le (by rw [hS.ylen]; exact Nat.le_refl _)]⟩
  ·
   go_ret
   exact .inr ⟨rfl, _, hpx, hx2⟩
 | cons q0 qs ih =>
  intro n t pr y don W ht hqs hS hz hy hJd hpx
  simp only [List.length_cons] at ht
  have htl : t < L := by omega
  have htL : ((t : Int) == (L : Int)) = false := by simpa using (show ¬ (t : Int) = L by omega)
  have t0 : (0 : Int) ≤ t := by omega
  have tl : (t : Int) < L := by omega
  obtain ⟨b, off, Ak, nk, ck, x, rfl, hb, hvs, hc, hx, hxl, hnc, hnk, hrow⟩ := hS.rows.2 t htl
  have hq0 : q0 = x ∧ ps.drop (t + 1) = qs := by
   rw [drop_some hx] at hqs
   exact ⟨(List.cons.inj hqs).1.symm, (List.cons.inj hqs).2⟩
  obtain ⟨rfl, hqs'⟩ := hq0
  have c1 := cell_in hS.par 0
  simp only [List.getElem?_toArray, List.getElem?_cons_zero] at c1
  have HVS := hid hvs
  clear hvs
  have HQ := hid hqs'
  have HXL := hid hxl
  have HX0 := hid hx
  have HROW := hid hrow
  clear hqs hqs' hx hxl hrow
  refine callsIn_of_wp Try.func136 rfl h125 ?_ hro
  simp only [Try.ntmps136, List.size_toArray, List.length_cons, List.length_nil, Nat.reduceAdd, Nat.reduceSub, Array.replicate_succ, Array.replicate_zero, List.push_toArray, List.append_toArray, List.nil_append, List.cons_append]
  gi_wp2
  gi_loopw [21] (fun v wr => ∃ k : Nat, ∃ y', ∃ don' : List (List Int), v = .int .i64 k ∧ k ≤ nk ∧ ChS R A pp L pc l (some ⟨b, off, none⟩) vs ps y' wr ∧ W.heap.size ≤ wr.heap.size ∧ Hid (∀ j u, q0[j]? = some u → ∃ b' o', Ak = some ⟨b', o', none⟩ ∧ R b' ∧ wr.cell? ⟨b', o' + j, none⟩ = some (.int .i64 u)) ∧ Hid (y'.take t = pr) ∧ J (A + 4) don' wr ∧ Hid (don' ++ ((q0.drop k).flatMap fun i => (M.choices qs).map (i :: ·)).map (pr ++ ·) = don ++ (M.choices (q0 :: qs)).map (pr ++ ·))) (fun v _ => nk - (intOf v).toNat)
  case atStart => exact ⟨0, y, don, rfl, Nat.zero_le _, hS, Nat.le_refl _, HROW, hid hy, hJd, hid rfl⟩
  case round =>
   obtain ⟨k, y', don', rfl, hk, hS', hz', HRW, HY', hJ', HD⟩ := hrel
   by_cases hlt : k < nk
   ·
    have hprl : pr.length = t := by rw [← HY'.out, List.length_take, hS'.ylen]; omega
    have hxk : q0[k]? = some (q0[k]'(by rw [HXL.out]; exact hlt)) := List.getElem?_eq_getElem _
    generalize q0[k]'(by rw [HXL.out]; exact hlt) = u at hxk
    obtain ⟨b', o', rfl, hb', hcu⟩ := HRW.out k u hxk
    have c3 := cell_in hS'.lst 0
    have c4 := cell_in hS'.cho 0
    simp only [List.getElem?_toArray, List.getElem?_cons_zero] at c3 c4
    have c5 : wr.cell? ⟨A + 1, t, none⟩ = some (.int .i64 (y'.getD t 0)) := by
     rw [cell_in hS'.arr t, List.getElem?_toArray, List.getElem?_map, List.getD_eq_getElem?_getD, List.getElem?_eq_getElem (by rw [hS'.ylen]; exact htl)]; rfl
    have c6 := frozen_in hS'.arr t
    generalize y'.getD t 0 = u0 at c5
    have hoth : ∀ j, R j → (wr.setCell ⟨A + 1, t, none⟩ (.int .i64 u)).heap[j]? = wr.heap[j]? := fun j hj => Below.heap_setCell _ _ _ _ (by have := hRA j hj; simp; omega)
    have hS1 : ChS R A pp L pc l (some ⟨b, off, none⟩) vs ps (y'.set t u) (wr.setCell ⟨A + 1, t, none⟩ (.int .i64 u)) :=
     ⟨set_heap hS'.par (by have := hRA pp r1; simp; omega), set_heap hS'.yld (by simp), by rw [set_heap_same hS'.arr]; simp [List.map_set], set_heap hS'.lst (by simp), set_heap hS'.cho (by simp), by rw [List.length_set]; exact hS'.ylen, hS'.rows.same fun j hj _ => hoth j hj⟩
    have hsz1 : (wr.setCell ⟨A + 1, t, none⟩ (.int .i64 u)).heap.size = wr.heap.size := by simp [World.setCell]
    have hD := HD.out
    rw [drop_some hxk, List.flatMap_cons, List.map_append, List.map_map, ← List.append_assoc] at hD
    have hfn : ((fun x => pr ++ x) ∘ fun x => u :: x) = fun x => (pr ++ [u]) ++ x := by funext x; simp
    rw [hfn] at hD
    have hpre1 : don' ++ (M.choices qs).map ((pr ++ [u]) ++ ·) <+: xs := List.IsPrefix.trans ⟨_, hD⟩ hpx
    have hih := ih (n - 1) (t + 1) (pr ++ [u]) (y'.set t u) don' (wr.setCell ⟨A + 1, t, none⟩ (.int .i64 u)) (by omega) HQ.out hS1 (by simp [World.setCell]; omega)
     (by rw [List.take_add_one, List.take_set_of_le (Nat.le_refl _), HY'.out]; simp [hS'.ylen, htl]) (hJ _ _ _ _ (by omega) hJ' (Bar.setCell _ (by simp) (by simp))) hpre1
    rw [show ((t + 1 : Nat) : Int) = (t : Int) + 1 from by omega] at hih
    have HIH := hid hih
    have HD2 := hid hD
    have hkn : (k : Int) < nk := by omega
    have hk0 : (0 : Int) ≤ k := by omega
    clear hih ih hD hfn hpre1 hxk
    gi_wp2_with ((try refine ⟨hdd _, ?_⟩); gi_at_call 136; with_reducible refine HIH.out.mono ?_; clear HIH; rintro e W2 (⟨rfl, hJ2, hz2, y2, hS2, hy2⟩ | ⟨rfl, q, hq, hx2⟩))
    ·
     refine ⟨⟨k + 1, y2, _, by go_num, by omega, hS2, by rw [hsz1] at hz2; omega, hid ?_, hid ?_, hJ2, HD2⟩, by simp [intOf]; omega⟩
     ·
      obtain ⟨b2, off2, Ak2, nk2, ck2, x2, e1, hb2, hv2, hc2, hx2, _, _, _, hrow2⟩ := hS2.rows.2 t htl
      rw [HVS.out] at hv2
      simp only [Option.some.injEq, Prod.mk.injEq] at hv2
      obtain ⟨rfl, rfl, rfl⟩ := hv2
      rw [HX0.out] at hx2
      cases hx2
      exact hrow2
     ·
      have h3 : (y2.take (t + 1)).take t = (pr ++ [u]).take t := by rw [hy2]
      rw [List.take_take, Nat.min_eq_left (by omega), List.take_left' hprl] at h3
      exact h3
    ·
     go_ret
     exact .inr ⟨rfl, q, hq, hx2⟩
   ·
    have hks : k = nk := by omega
    subst hks
    have hD := HD.out
    rw [List.drop_eq_nil_of_le (by rw [HXL.out]; exact Nat.le_refl _)] at hD
    simp only [List.flatMap_nil, List.map_nil, List.append_nil] at hD
    have HDD := hid hD
    clear hD
    gi_wp2
    go_ret
    exact .inl ⟨rfl, by rw [← HDD.out]; exact hJ', hz', y', hS', HY'.out⟩


set_option maxRecDepth 100000 in
set_option maxHeartbeats 4000000 in
theorem choices_seq (F : Fence) (hd : F.depth = none) (h124 : F.fn 135) (h125 : F.fn 136) (hro : F.round = none) (n pp L pc : Nat) (PA : Option Addr) (vs : List Hd) (ps : List (List Int)) (hL : L ≤ 100) (hpc : L ≤ pc) (R : Nat → Prop) (r1 : R pp) (w0 : World) (hRl : ∀ k, R k → k < w0.heap.size)
  (q1 : w0.heap[pp]? = some (.cells #[.slice PA L pc] 167 (0, 0))) (hrows : PR R w0 PA L vs ps) :
  SeqX F n Try.prog 135 #[.pointer (some ⟨pp, 0, none⟩)] (incE L) (incH L) R (M.choices ps) w0 := by
 intro l J Jx W hW hJ hJx hY h0
 have hdd : ∀ k : Nat, (F.depth.isSome = true → 1 ≤ k) := fun k h => by rw [hd] at h; cases h
 have hpl := heap_lt q1
 have hws := hW.size
 have hplW : pp < W.heap.size := by omega
 have c1 : W.cell? ⟨pp, 0, none⟩ = some (.slice PA L pc) := cell_in ((hW.block pp hpl).trans q1) 0
 have hch : ∀ W4, Ev W W4 → W4.heap.size = W.heap.size + 4 → ChS R W.heap.size pp L pc l PA vs ps (List.replicate L 0) W4 →
   CallsIn F (n - 1) Try.prog 136 #[.int .i64 0, .pointer (some ⟨pp, 0, none⟩), .pointer (some ⟨W.heap.size, 0, none⟩), .pointer (some ⟨W.heap.size + 1 + 1, 0, none⟩), .pointer (some ⟨W.heap.size + 1 + 1 + 1, 0, none⟩)] W4 fun e W' =>
    (∃ b, e = .returned (.bool b)) ∧ ∃ B, W.heap.size ≤ B ∧ (J B (M.choices ps) W' ∨ ∃ pre, pre <+: M.choices ps ∧ Jx B pre W') := by
  intro W4 hE hs hS
  have := chooseC_in F hd h125 hro l W.heap.size pp L pc PA vs ps hL hpc R r1 (fun k hk => by have := hRl k hk; omega) (M.choices ps) J Jx hJ
   (fun m B pre x W1 h1 h2 h3 h4 h5 => yield_any hd m (hY B pre x W1 h1 h2 h3 h4 h5)) ps (n - 1) 0 [] (List.replicate L 0) [] W4 (by rw [hrows.1]; omega) rfl hS (by omega) (by simp) (by rw [← hs]; exact h0 W4 hE) (by simp)
  refine CallsIn.mono this ?_
  rintro e W' (⟨rfl, hj, _, _⟩ | ⟨rfl, q, hq, hx⟩)
  ·
   exact ⟨⟨_, rfl⟩, W.heap.size + 4, by omega, .inl (by simpa using hj)⟩
  ·
   exact ⟨⟨_, rfl⟩, W.heap.size + 4, by omega, .inr ⟨q, hq, hx⟩⟩
 have HCH := hid hch
 have hmk := fun wx => make27 L hL wx
 have hal := alloc4 W (.cells #[.func (.yield l) #[] #[]] 107) (.cells (Array.replicate L (.int .i64 0)) 3) (.cells #[.slice (some ⟨W.heap.size + 1, 0, none⟩) L L] 25) (.cells #[.nilFunc] 130)
 have c9 := cell_in hal.2.2.2.1 0
 have f9 := frozen_in hal.2.2.2.1 0
 simp only [List.getElem?_toArray, List.getElem?_cons_zero] at c9
 clear hal
 have Q1 := hid ((hW.block pp hpl).trans q1)
 have QR := hid (hrows.same fun k hk hl => hW.block k (hRl k hk))
 clear hch hrows
 refine callsIn_of_wp Try.func135 rfl h124 ?_ hro
 simp only [Try.ntmps135, List.size_toArray, List.length_cons, List.length_nil, Nat.reduceAdd, Nat.reduceSub, Array.replicate_succ, Array.replicate_zero, List.push_toArray, List.append_toArray, List.nil_append, List.cons_append]
 have hcl := alloc4 W (.cells #[.func (.yield l) #[] #[]] 107) (.cells (Array.replicate L (.int .i64 0)) 3) (.cells #[.slice (some ⟨W.heap.size + 1, 0, none⟩) L L] 25) (.cells #[.func (.func 136) #[] #[.pointer (some ⟨pp, 0, none⟩), .pointer (some ⟨W.heap.size, 0, none⟩), .pointer (some ⟨W.heap.size + 1 + 1, 0, none⟩), .pointer (some ⟨W.heap.size + 1 + 1 + 1, 0, none⟩)]] 130)
 have hEv : Ev W ((((W.alloc (.cells #[.func (.yield l) #[] #[]] 107)).alloc (.cells (Array.replicate L (.int .i64 0)) 3)).alloc (.cells #[.slice (some ⟨W.heap.size + 1, 0, none⟩) L L] 25)).alloc (.cells #[.func (.func 136) #[] #[.pointer (some ⟨pp, 0, none⟩), .pointer (some ⟨W.heap.size, 0, none⟩), .pointer (some ⟨W.heap.size + 1 + 1, 0, none⟩), .pointer (some ⟨W.heap.size + 1 + 1 + 1, 0, none⟩)]] 130)) := Ev.alloc (Ev.alloc (Ev.alloc (Ev.alloc (Ev.refl _) _) _) _) _
 have hgo := HCH.out _ hEv hcl.2.2.2.2 ⟨hEv.heap Q1.out, hcl.1, by rw [hcl.2.1]; simp, hcl.2.2.1, hcl.2.2.2.1, by simp, QR.out.same fun k hk hl => hEv.block k hl⟩
 have HGO := hid hgo
 clear hcl hEv hgo
 gi_wp2_with ((try refine ⟨hdd _, ?_⟩); gi_at_call 136; with_reducible refine HGO.out.mono ?_; clear HGO; rintro e W1 ⟨⟨b, rfl⟩, hB⟩)
 go_end0
 exact ⟨⟨_, rfl⟩, hB⟩

set_option maxRecDepth 100000 in
set_option maxHeartbeats 1000000 in
theorem choices_c (PA : Option Addr) (L pc : Nat) (w : World) :
  Calls Try.prog 128 #[.slice PA L pc] w fun e w' => e = .returned (.func (.func 135) #[] #[.pointer (some ⟨w.heap.size, 0, none⟩)]) ∧ Ev w w' ∧ w'.heap[w.heap.size]? = some (.cells #[.slice PA L pc] 167 (0, 0)) := by
 have hal := alloc1 w (.cells #[.slice PA L pc] 167)
 have HAL := hid hal
 clear hal
 go_enter Try.func128, Try.ntmps128
 go_wp2
 go_ret
 exact ⟨rfl, Ev.alloc (Ev.refl _) _, HAL.out.1⟩


theorem eqI_nil (c : Nat) (wx : World) : (binOp .eql 25 (.slice none 0 c) (.slice none 0 0)).run Try.prog wx = .ok (.bool true) wx := by
 simp [binOp, Op.equal, Op.maxDepth, Lib.run_equalIn_slice_nil wx 9999 25 3 none 0 c 0 0 Try.underlying25]
theorem neI_nil (ad : Addr) (n c : Nat) (wx : World) : (binOp .eql 25 (.slice (some ad) n c) (.slice none 0 0)).run Try.prog wx = .ok (.bool false) wx := by
 simp [binOp, Op.equal, Op.maxDepth, Lib.run_equalIn_slice_nil wx 9999 25 3 (some ad) n c 0 0 Try.underlying25]

set_option maxRecDepth 100000 in
set_option maxHeartbeats 1000000 in
theorem cloneI_c (A : Option Addr) (n c : Nat) (xs : List Int) (hn : n ≤ 1000) (w : World) (hs : Sl ics 1 w w.heap.size A n c xs) :
  Calls Try.prog 129 #[.slice A n c] w fun e w' => (∃ B d, e = .returned (.slice B n d) ∧ w'.ownsRow w.heap.size 3 1 (.slice B n d) n (xs.flatMap ics)) ∧ Ev w w' := by
 obtain ⟨i0, hi0, hz0, hz1, hz2⟩ := info_parts info3
 cases A with
 | none =>
  have hm0 : n = 0 := by
   rcases Nat.eq_zero_or_pos n with h | h
   ·
    exact h
   ·
    obtain ⟨b, off, hA, _⟩ := hs.cells h; cases hA
  subst hm0
  obtain rfl : xs = [] := List.eq_nil_of_length_eq_zero hs.len
  have hq : ∀ wx : World, (binOp .eql 25 (.slice none 0 c) (.slice none 0 0)).run Try.prog wx = .ok (.bool true) wx := fun wx => eqI_nil c wx
  go_enter Try.func129, Try.ntmps129
  go_wp2
  go_ret
  exact ⟨⟨none, 0, rfl, World.ownsRow_nil _ _ _ _⟩, Ev.refl _⟩
 | some ad =>
  have HS := hid hs
  have hq : ∀ wx : World, (binOp .eql 25 (.slice (some ad) n c) (.slice none 0 0)).run Try.prog wx = .ok (.bool false) wx := fun wx => neI_nil ad n c wx
  clear hs
  go_enter Try.func129, Try.ntmps129
  go_wp2_with (at_builtin; refine append_sl (enc := ics) rfl (.tmp 5) (.tmp 6) 25 rfl w.heap.size 3 i0 _ 1 8 Try.underlying25 hi0 hz0 hz1 hz2 rfl (by decide) _ 0 [] rfl (World.ownsRow_lit w _ 0 (Nat.le_refl _) (by decide) rfl) (some ad) n c xs _ rfl (HS.out.ev (Ev.alloc (Ev.refl _) _)) (ics_len _) (ics_one _) (fun h => by cases h) (by unfold maxLen; omega) (by omega) (by simp) ?_; intro v' w3 hown' hgrow; have hown2 : w3.ownsRow w.heap.size 3 1 v' n (xs.flatMap ics) := (by simpa using hown'); obtain ⟨B, d, rfl⟩ := own_form hown2; have HG := hid hgrow; have HO := hid hown2; clear hown' hown2 hgrow)
  go_ret
  exact ⟨⟨B, d, rfl, HO.out⟩, Ev.grown (Ev.alloc (Ev.refl _) _) HG.out (fun k e => by have e2 : some w.heap.size = some k := e; simp at e2; omega)⟩

def RowsB (b0 : Nat) (W : World) (vs : List Hd) (xs : List (List Int)) : Prop :=
 vs.length = xs.length ∧ ∀ (j : Nat) (v : Hd) (x : List Int), vs[j]? = some v → xs[j]? = some x → W.ownsRow b0 3 1 (.slice v.1 v.2.1 v.2.2) v.2.1 (x.flatMap ics) ∧ v.2.1 ≤ 1000
theorem RowsB.nil (b0 : Nat) (W : World) : RowsB b0 W [] [] := ⟨rfl, fun j v x h => by simp at h⟩
theorem RowsB.ev {b0 : Nat} {W W' : World} {vs : List Hd} {xs : List (List Int)} (h : RowsB b0 W vs xs) (he : Ev W W') : RowsB b0 W' vs xs :=
 ⟨h.1, fun j v x hv hx => ⟨(h.2 j v x hv hx).1.ev he, (h.2 j v x hv hx).2⟩⟩
theorem RowsB.grown {b0 : Nat} {w w' : World} {vs : List Hd} {xs : List (List Int)} (h : RowsB b0 w vs xs) {n2 : Nat} {v2 : Value} {x2 : List Value} (h2 : w.ownsRow b0 25 1 v2 n2 x2) (hg : w.grownBy w' v2.ownBlock) : RowsB b0 w' vs xs :=
 ⟨h.1, fun j v x hv hx => ⟨(h.2 j v x hv hx).1.kept hg (own_ne h2 (h.2 j v x hv hx).1 (by decide)), (h.2 j v x hv hx).2⟩⟩
theorem RowsB.snoc {b0 : Nat} {W : World} {vs : List Hd} {xs : List (List Int)} (h : RowsB b0 W vs xs) {v : Hd} {x : List Int} (hx : W.ownsRow b0 3 1 (.slice v.1 v.2.1 v.2.2) v.2.1 (x.flatMap ics)) (hn : v.2.1 ≤ 1000) : RowsB b0 W (vs ++ [v]) (xs ++ [x]) := by
 refine ⟨by simp [h.1], fun j u y hu hy => ?_⟩
 rcases Nat.lt_or_ge j vs.length with hj | hj
 ·
  rw [List.getElem?_append_left hj] at hu
  rw [List.getElem?_append_left (by rw [← h.1]; exact hj)] at hy
  exact h.2 j u y hu hy
 ·
  rw [List.getElem?_append_right hj] at hu
  rw [List.getElem?_append_right (by rw [← h.1]; exact hj), ← h.1] at hy
  have h0 : j - vs.length = 0 := by
   rcases Nat.eq_zero_or_pos (j - vs.length) with h0 | h0
   ·
    exact h0
   ·
    rw [List.getElem?_eq_none (by simp; omega)] at hu; cases hu
  rw [h0] at hu hy
  simp at hu hy
  subst hu hy
  exact ⟨hx, hn⟩
theorem RowsB.pr {b0 : Nat} {W : World} {vs : List Hd} {xs : List (List Int)} (h : RowsB b0 W vs xs) {V : Option Addr} {L cc : Nat} (hL : L ≤ 100) (hh : W.ownsRow b0 25 1 (.slice V L cc) L (vs.flatMap hdc)) :
  PR (fun k => b0 ≤ k ∧ k < W.heap.size) W V L vs xs := by
 have hs := sl_own (enc := hdc) (by decide) (hdc_len vs) (by omega) hh
 refine ⟨by rw [← h.1]; exact hs.len, fun t ht => ?_⟩
 obtain ⟨b, off, rfl, hlt, hc⟩ := hs.cells (by omega)
 have hv : vs[t]? = some (vs[t]'(by rw [hs.len]; exact ht)) := List.getElem?_eq_getElem _
 generalize vs[t]'(by rw [hs.len]; exact ht) = v at hv
 have hx : xs[t]? = some (xs[t]'(by rw [← h.1, hs.len]; exact ht)) := List.getElem?_eq_getElem _
 generalize xs[t]'(by rw [← h.1, hs.len]; exact ht) = x at hx
 obtain ⟨hr, hn⟩ := h.2 t v x hv hx
 have hrs := sl_own (enc := ics) (by decide) (ics_len x) (by omega) hr
 have hcell := hc t v hv 0 _ rfl
 refine ⟨b, off, v.1, v.2.1, v.2.2, x, rfl, ⟨(hh.lt b rfl).1, hlt⟩, hv, by simpa using hcell, hx, hrs.len, hrs.cap, hn, fun j y hj => ?_⟩
 obtain ⟨b', o', hA, hlt', hc'⟩ := hrs.cells (by have := (List.getElem?_eq_some_iff.1 hj).1; have := hrs.len; omega)
 have hcell' := hc' j y hj 0 _ rfl
 exact ⟨b', o', hA, ⟨(hr.lt b' (by rw [hA]; rfl)).1, hlt'⟩, by simpa using hcell'⟩
theorem one2 (ys : List Hd) : ∀ u ∈ ys.flatMap hdc, u.oneCell' = true := by
 intro u hu
 obtain ⟨y, _, hy⟩ := List.mem_flatMap.1 hu
 simp [hdc] at hy
 subst hy; rfl
theorem own_base {w : World} {b b' : Nat} {e : TypeId} {size : Nat} {v : Value} {n : Nat} {xs : List Value} (h : w.ownsRow b e size v n xs) (hb : b' ≤ b) : w.ownsRow b' e size v n xs := by
 refine ⟨h.1, ?_⟩
 rcases h.2 with hn | ⟨g, cap, cur, h1, h2, rest⟩
 ·
  exact .inl hn
 ·
  exact .inr ⟨g, cap, cur, h1, Nat.le_trans hb h2, rest⟩
theorem Sl.take {α : Type} {enc : α → List Value} {sz : Nat} {w : World} {B : Nat} {A : Option Addr} {n c : Nat} {xs : List α} (h : Sl enc sz w B A n c xs) {j : Nat} (hj : j ≤ n) : Sl enc sz w B A j c (xs.take j) := by
 refine ⟨by rw [List.length_take, h.len]; omega, by have := h.cap; omega, by have := h.small; omega, fun h0 => ?_⟩
 obtain ⟨b, off, hA, hlt, hc⟩ := h.cells (by omega)
 refine ⟨b, off, hA, hlt, fun k x hk => hc k x ?_⟩
 rw [List.getElem?_take] at hk
 split at hk
 ·
  exact hk
 ·
  cases hk
theorem Sl.drop {α : Type} {enc : α → List Value} {sz : Nat} {w : World} {B b off : Nat} {n c : Nat} {xs : List α} (h : Sl enc sz w B (some ⟨b, off, none⟩) n c xs) {j : Nat} (hj : j ≤ n) : Sl enc sz w B (some ⟨b, off + j * sz, none⟩) (n - j) (c - j) (xs.drop j) := by
 refine ⟨by rw [List.length_drop, h.len], by have := h.cap; omega, by have := h.small; omega, fun h0 => ?_⟩
 obtain ⟨b', off', hA, hlt, hc⟩ := h.cells (by omega)
 simp only [Option.some.injEq, Addr.mk.injEq, and_true] at hA
 obtain ⟨rfl, rfl⟩ := hA
 refine ⟨b, off + j * sz, rfl, hlt, fun k x hk i v hv => ?_⟩
 rw [List.getElem?_drop] at hk
 have := hc (j + k) x hk i v hv
 rw [Nat.add_mul] at this
 rw [show off + j * sz + k * sz + i = off + (j * sz + k * sz) + i from by omega]
 exact this
theorem slice_h (ad : Option Addr) (m d h : Nat) (hh : h ≤ d) (wx : World) : (Instr.slice 25 (.slice ad m d) none (some (.int .i64 h)) none).run Try.prog wx = .ok (.slice ad h d) wx ∧ (Instr.sliceAt 25 (.slice ad m d) none (some (.int .i64 h)) none).run Try.prog wx = .ok (.slice ad h d) wx := by
 have he : Try.prog.elem 25 = 3 := by kernel_rfl
 have hu : Try.prog.underlying 25 = some (.slice (Try.prog.elem 25)) := by rw [he]; exact Try.underlying25
 have hr : (Instr.slice 25 (.slice ad m d) none (some (.int .i64 h)) none).run Try.prog wx = .ok (.slice ad h d) wx := by
  rw [run_slice_h wx 25 _ _ _ hu .i64 h (by omega) (by omega), he, Try.sizeOf3]
  simp only [Result.andThen_ok, sliced]
  cases ad <;> simp [Addr.add]
 exact ⟨hr, by rw [run_sliceAt_slice wx 25 _ _ _ _ hu]; exact hr⟩
theorem slice_l (b off m d l : Nat) (hl : l ≤ m) (hd : l < d) (wx : World) : (Instr.slice 25 (.slice (some ⟨b, off, none⟩) m d) (some (.int .i64 l)) none none).run Try.prog wx = .ok (.slice (some ⟨b, off + l, none⟩) (m - l) (d - l)) wx ∧ (Instr.sliceAt 25 (.slice (some ⟨b, off, none⟩) m d) (some (.int .i64 l)) none none).run Try.prog wx = .ok (.slice (some ⟨b, off + l, none⟩) (m - l) (d - l)) wx := by
 have he : Try.prog.elem 25 = 3 := by kernel_rfl
 have hu : Try.prog.underlying 25 = some (.slice (Try.prog.elem 25)) := by rw [he]; exact Try.underlying25
 have hr : (Instr.slice 25 (.slice (some ⟨b, off, none⟩) m d) (some (.int .i64 l)) none none).run Try.prog wx = .ok (.slice (some ⟨b, off + l, none⟩) (m - l) (d - l)) wx := by
  rw [run_slice_l wx 25 _ _ _ hu .i64 l (by omega) (by omega), he, Try.sizeOf3]
  simp only [Result.andThen_ok, sliced, Int.toNat_natCast]
  have hne : ¬ l = d := by omega
  simp [hne, Addr.add]
  try (split <;> simp_all)
 exact ⟨hr, by rw [run_sliceAt_slice wx 25 _ _ _ _ hu]; exact hr⟩
theorem roundIn_in {F : Fence} {n : Nat} {P : Program} {l : Nat} {f : FuncId} {tmps : Array Value} {a b : Code} {w : World} {R : Ending → World → Prop} (l' : Nat) (h : RoundIn F n P l f tmps a b w R) : RoundIn (F.inRound l') n P l f tmps a b w R := h
theorem M.choices_len : ∀ (ps : List (List Int)) (x : List Int), x ∈ M.choices ps → x.length = ps.length
 | [], x, h => by rw [show x = [] by simpa [M.choices] using h]; rfl
 | p :: ps, x, h => by
  unfold M.choices at h
  obtain ⟨y, _, h⟩ := List.mem_flatMap.1 h
  obtain ⟨z, hz, rfl⟩ := List.mem_map.1 h
  rw [List.length_cons, List.length_cons, M.choices_len ps z hz]
theorem allTruths_c (f : M.Cf) (Aw At Ar : Option Addr) (nw cw nt ct nr cr : Nat) (w : World) :
  Calls Try.prog 110 #[.agg #[.int .i64 f.last, .int .i64 f.size, .int .i64 f.cool, .int .i64 f.die, .int .i64 f.burn, .int .i64 f.st.lo, .int .i64 f.st.hi, .slice Aw nw cw, .slice At nt ct, .slice Ar nr cr]] w fun e w' => e = .returned (.func (.func 126) #[] #[.pointer (some ⟨w.heap.size, 0, none⟩)]) ∧ Ev w w' ∧ w'.heap[w.heap.size]? = some (.cells #[.int .i64 f.last, .int .i64 f.size, .int .i64 f.cool, .int .i64 f.die, .int .i64 f.burn, .int .i64 f.st.lo, .int .i64 f.st.hi, .slice Aw nw cw, .slice At nt ct, .slice Ar nr cr] 40 (0, 0)) := by
 have hal := alloc1 w (.cells #[.int .i64 f.last, .int .i64 f.size, .int .i64 f.cool, .int .i64 f.die, .int .i64 f.burn, .int .i64 f.st.lo, .int .i64 f.st.hi, .slice Aw nw cw, .slice At nt ct, .slice Ar nr cr] 40)
 have HAL := hid hal
 clear hal
 go_enter Try.func110, Try.ntmps110
 go_wp2
 go_ret
 exact ⟨rfl, Ev.alloc (Ev.refl _) _, HAL.out.1⟩
def M.parts (f : M.Cf) : List (List Int) := (M.ranges f).map fun r => M.fromTo r.lo (r.hi - r.lo + 1).toNat
def M.cutAt (x : List Int) : M.Tr := ⟨x.headD 0, x.drop 1⟩
/-- All truths without regard to readings. -/
def M.allTruths (f : M.Cf) : List M.Tr := (M.choices (M.parts f)).map M.cutAt
theorem M.parts_len (f : M.Cf) : (M.parts f).length = (M.ranges f).length := by simp [M.parts]
/-- What the iterator over truths hands over. -/
def thHx (_ B : Nat) (t : M.Tr) (av : Array Value) (W : World) : Prop :=
 ∃ B2 d2 n2, av = #[.agg #[.int .i64 t.st, .slice B2 n2 d2]] ∧ W.ownsRow B 3 1 (.slice B2 n2 d2) n2 (t.wet.flatMap ics) ∧ n2 ≤ 100

end Go.Proofs.Ytgimcephbeajlaa
