import Derived.Test.YtffbkbcjddigdaaA66
import Derived.Maps.AppendAt
import Derived.Deep.DeepCutAuto
set_option linter.unusedSimpArgs false
set_option linter.unusedVariables false
namespace Go.Proofs.Ytffbkbcjddigdaa
open Go.RowKit Go.Shelf

section
variable {P : Program} {w : World}
theorem wp_append_own_at {o : Oper} {a : Act} {K : Act → World → Prop} {Q : Exit → Act → World → Prop} (s x : Operand) (t : TypeId)
  (ho : o.op = .call { callee := .builtin .append, args := #[s, x], argTypes := #[t, t] })
  (base : Nat) (e : TypeId) (i : TypeInfo) (z : Value) (size bytes : Nat) (ht : P.underlying t = some (.slice e)) (hi : P.info? e = some i) (hz : i.zero = some z)
  (hsize : i.size = size) (hby : i.bytes = bytes) (hzs : z.cells.size = size) (hsz : 0 < size)
  (v : Value) (n : Nat) (xs : List Value) (hs : a.eval s = v) (hown : w.ownsRow base e size v n xs)
  (ad : Addr) (m c : Nat) (news : List Value) (hx : a.eval x = .slice (some ad) m c) (hl : news.length = m * size) (hnews : ∀ j u, news[j]? = some u → w.cell? (ad.add j) = some u) (h1 : ∀ u ∈ news, u.oneCell' = true)
  (h63 : n + m ≤ maxLen) (hbytes : (n + m) * bytes ≤ 140737488355328) (hbase : base ≤ w.heap.size)
  (h : ∀ v' w', w'.ownsRow base e size v' (n + m) (xs ++ news) → w.grownBy w' v.ownBlock → (v'.ownBlock = v.ownBlock ∨ v'.ownBlock = some w.heap.size) → K (a.put o.dst v') w') : o.wp P a w K Q := by
 obtain ⟨v', w', hr, h2, h3, h4, h5⟩ := run_append_own_at (P := P) w base t o.type e i z size bytes ht hi hz hsize hby hzs hsz v n xs hown ad m c news hl hnews h1 h63 hbytes hbase
 unfold Oper.wp execOp
 simp only [ho, resolve, invoke, builtin, Sem.run_bind, Sem.run_pure, Result.andThen_ok, List.map_toArray, List.map_cons, List.map_nil, hs, hx, hr]
 exact h v' w' h2 h3 h5
end

set_option maxRecDepth 100000 in
set_option maxHeartbeats 8000000 in
theorem Nth_c (f : M.Cf) (Ag Aw Ab Ac Al : Option Addr) (ng cg nw cw nb cb nc cc nl cl : Nat) (hv : M.valid f = true) (hl9 : f.last ≤ 9) (n : Nat) (hn : n ≤ 1000000) (w : World) (hs : CS w w.heap.size f Ag Aw Ab Ac Al ng cg nw cw nb cb nc cc nl cl) :
  Calls Try.prog 42 #[.agg #[.int .i64 f.last, .slice Ag ng cg, .slice Aw nw cw, .slice Ab nb cb, .slice Ac nc cc, .int .i64 f.ripe, .int .i64 f.late, .int .i64 f.trod, .slice Al nl cl], .int .i64 n] w fun e w' => (∃ Bg dg Bw dw, e = .returned (.agg #[.slice Bg ng dg, .slice Bw nw dw]) ∧ w'.ownsRow w.heap.size 3 1 (.slice Bg ng dg) ng ((M.nth f n).gr.flatMap ics) ∧ w'.ownsRow w.heap.size 3 1 (.slice Bw nw dw) nw ((M.nth f n).wet.flatMap ics) ∧ Ap (.slice Bg ng dg) (.slice Bw nw dw)) ∧ Ev w w' := by
 obtain ⟨i0, hi0, hz0, hz1, hz2⟩ := info_parts info3
 have hgl := hs.g.len
 have hwl := hs.w_.len
 have hnn : nw = ng := by have := M.weeks_eq hv; omega
 subst hnn
 obtain ⟨h0_, h1_, _⟩ := M.valid_parts hv
 have hng : nw ≤ 10 := by omega
 have HG := hid (M.gr_le hv)
 have HW := hid (M.wet_le hv)
 have HCS := hid hs
 clear hv hs h0_ h1_ hgl
 go_enter Try.func42, Try.ntmps42
 go_upto_region 2 with fail
 generalize hW0 : World.alloc (World.alloc (World.alloc w _) _) _ = W0
 have hE0 : Ev w W0 := by rw [← hW0]; exact Ev.alloc (Ev.alloc (Ev.alloc (Ev.refl _) _) _) _
 have hal := alloc3 w (.cells #[.int .i64 f.last, .slice Ag nw cg, .slice Aw nw cw, .slice Ab nb cb, .slice Ac nc cc, .int .i64 f.ripe, .int .i64 f.late, .int .i64 f.trod, .slice Al nl cl] 26) (.cells #[.slice none 0 0, .slice none 0 0] 28) (.cells #[.slice none 0 0, .slice none 0 0] 28)
 rw [hW0] at hal
 have Q0 := hid hal.1
 have Q1 := hid hal.2.1
 have HC := hid hal.2.2.1
 have hz0s : W0.heap.size = w.heap.size + 3 := hal.2.2.2
 clear hal hW0
 generalize hp : w.heap.size + 1 + 1 = p at HC
 go_wp2_with fail
 go_loopw [1, 6] (fun a i wr => ∃ (k m : Nat) (ys us : List Int) (Vg Vw : Option Addr) (ce cf : Nat), a = .int .i64 m ∧ i = .int .i64 k ∧ k ≤ nw ∧ m ≤ 1000000 ∧ Ev w wr ∧ Hid (wr.heap[w.heap.size]? = some (.cells #[.int .i64 f.last, .slice Ag nw cg, .slice Aw nw cw, .slice Ab nb cb, .slice Ac nc cc, .int .i64 f.ripe, .int .i64 f.late, .int .i64 f.trod, .slice Al nl cl] 26 (0, 0))) ∧ Hid (wr.heap[w.heap.size + 1]? = some (.cells #[.slice none 0 0, .slice none 0 0] 28 (0, 0))) ∧ Hid (wr.heap[p]? = some (.cells #[.slice Vg k ce, .slice Vw k cf] 28 (0, 0))) ∧ Hid (wr.ownsRow (p + 1) 3 1 (.slice Vg k ce) k (ys.flatMap ics)) ∧ Hid (wr.ownsRow (p + 1) 3 1 (.slice Vw k cf) k (us.flatMap ics)) ∧ Hid (Ap (.slice Vg k ce) (.slice Vw k cf)) ∧ Hid (ys ++ M.ngr (f.gr.drop k) (f.wet.drop k) m = M.ngr f.gr f.wet n) ∧ Hid (us ++ M.nwt (f.gr.drop k) (f.wet.drop k) m = M.nwt f.gr f.wet n)) (fun _ i _ => nw - (intOf i).toNat)
 case atStart => exact ⟨0, n, [], [], none, none, 0, 0, rfl, rfl, by omega, by omega, hE0, Q0, Q1, HC, hid (World.ownsRow_nil _ _ _ _), hid (World.ownsRow_nil _ _ _ _), hid (fun g h => by cases h), hid rfl, hid rfl⟩
 case round =>
  obtain ⟨k, m, ys, us, Vg, Vw, ce, cf, rfl, rfl, hk, hm, hB, hQ0, hQ1, hC, hown, howW, hap, hP, hU⟩ := hrel
  obtain ⟨W1, hW1⟩ : ∃ x, x = wr := ⟨_, rfl⟩
  subst hW1
  clear Q0 Q1 HC
  obtain ⟨q0, q1, q2, q3, q4, q5, q6, q7, q8⟩ := cells9 hQ0.out
  have lq := heap_lt hQ0.out
  have lp := heap_lt hC.out
  have hBs := hB.size
  by_cases hlt : k < nw
  ·
   obtain ⟨b, off, r, hA, hb, hx, hxd, hcc⟩ := HCS.out.g.at_ hB hlt
   have e0 := hcc 0 _ rfl
   have e1 := hcc 1 _ rfl
   simp only [Nat.add_zero] at e0
   obtain ⟨s, hsy⟩ : ∃ s, f.wet[k]? = some s := ⟨f.wet[k]'(by omega), List.getElem?_eq_getElem _⟩
   have hyd : f.wet.drop k = s :: f.wet.drop (k + 1) := by obtain ⟨h1, h2⟩ := List.getElem?_eq_some_iff.1 hsy; rw [← h2]; exact List.drop_eq_getElem_cons h1
   have hcap := HCS.out.g.cap
   subst hA
   have hr := HG.out r (List.mem_of_getElem? hx)
   have hs2 := HW.out s (List.mem_of_getElem? hsy)
   have hP2 := hP.out
   have hU2 := hU.out
   rw [hxd, hyd, M.ngr] at hP2
   rw [hxd, hyd, M.nwt] at hU2
   have hsz : r.hi - r.lo + 1 = ((M.sz r : Nat) : Int) := by unfold M.sz; omega
   have HSZ := hid (fun W => by have := Size_c r hr.1 hr.2.1 hr.2.2 W; rw [hsz] at this; exact this)
   have hzl : 1 ≤ M.sz r := by omega
   have hzu : M.sz r ≤ 51 := by omega
   generalize M.sz r = z at HSZ hP2 hU2 hzl hzu
   have a0 : ¬ ((z : Int) = 0) := by omega
   have a0' : ¬ (z = 0) := by omega
   have a1 : (m : Int).tmod z = ((m % z : Nat) : Int) := by rw [Int.tmod_eq_emod_of_nonneg (by omega)]; exact (Int.natCast_emod m z).symm
   have a2 : (m : Int).tdiv z = ((m / z : Nat) : Int) := by rw [Int.tdiv_eq_ediv_of_nonneg (by omega)]; exact (Int.natCast_ediv m z).symm
   have a3 : (m : Int) % z = ((m % z : Nat) : Int) := (Int.natCast_emod m z).symm
   have a4 : (m : Int) / z = ((m / z : Nat) : Int) := (Int.natCast_ediv m z).symm
   have b1 : m % z < z := Nat.mod_lt _ (by omega)
   have b2 : m / z ≤ m := Nat.div_le_self _ _
   generalize m % z = mr at a1 a3 hP2 b1
   generalize m / z = md at a2 a4 hP2 hU2 b2
   have g1 : IntKind.i64.wrap (mr : Int) = mr := IntWalk.i64_in _ (by omega)
   have g2 : IntKind.i64.wrap (r.lo + (mr : Int)) = r.lo + (mr : Int) := IntWalk.i64_in _ (by omega)
   have g3 : IntKind.i64.wrap (md : Int) = md := IntWalk.i64_in _ (by omega)
   generalize hx0 : r.lo + (mr : Int) = x at g2 hP2
   clear hP hU hx hxd hyd hcc hsz
   go_upto_region 6 with fail
   generalize hWT : World.alloc W1 _ = WT
   have hET : Ev W1 WT := by rw [← hWT]; exact Ev.alloc (Ev.refl _) _
   have hal := alloc1 W1 (.cells #[.int .i64 r.lo, .int .i64 r.hi] 87)
   rw [hWT] at hal
   have HT := hid hal.1
   have hszT : WT.heap.size = W1.heap.size + 1 := hal.2
   clear hal hWT
   have hEW := hB.trans hET
   have HC := hid (hET.heap hC.out)
   have Q0T := hid (hET.heap hQ0.out)
   have Q1T := hid (hET.heap hQ1.out)
   have hneT : (Value.slice Vg k ce).ownBlock ≠ some W1.heap.size := fun e => by have := (hown.out.lt _ e).2; omega
   replace hown := hid (hown.out.ev hET)
   replace howW := hid (howW.out.ev hET)
   obtain ⟨t0, t1⟩ := cells2 HT.out
   clear q0 q1 q2 q3 q4 q5 q6 q7 q8 e0 e1 hC hQ0 hQ1
   have lT : W1.heap.size < WT.heap.size := by omega
   have HSE : Hid (∀ w', Ev WT w' → (∀ o, w'.cell? ⟨W1.heap.size, o, none⟩ = WT.cell? ⟨W1.heap.size, o, none⟩)) := hid (fun w' h => fun o => h.cells.1 _ o lT)
   go_cut [1] (fun v W => v = .int .i64 md ∧ ∃ (V' : Option Addr) (ce' : Nat), Ev w W ∧ Hid (W.heap[w.heap.size]? = some (.cells #[.int .i64 f.last, .slice (some ⟨b, off, none⟩) nw cg, .slice Aw nw cw, .slice Ab nb cb, .slice Ac nc cc, .int .i64 f.ripe, .int .i64 f.late, .int .i64 f.trod, .slice Al nl cl] 26 (0, 0))) ∧ Hid (W.heap[w.heap.size + 1]? = some (.cells #[.slice none 0 0, .slice none 0 0] 28 (0, 0))) ∧ Hid (W.heap[p]? = some (.cells #[.slice V' (k + 1) ce', .slice Vw k cf] 28 (0, 0))) ∧ Hid (W.ownsRow (p + 1) 3 1 (.slice V' (k + 1) ce') (k + 1) ((ys ++ [x]).flatMap ics)) ∧ Hid (W.ownsRow (p + 1) 3 1 (.slice Vw k cf) k (us.flatMap ics)) ∧ Hid (Ap (.slice V' (k + 1) ce') (.slice Vw k cf)))
   case first =>
    refine wp_region_held_drew (S := fun w' => (∀ o, w'.cell? ⟨W1.heap.size, o, none⟩ = WT.cell? ⟨W1.heap.size, o, none⟩)) (by kernel_rfl) (fun o => rfl) (fun hHeld => ?_)
    refine tkH 0 (some 21) ?_
    (try simp only [Act.put, sA, sB, sC])
    refine tkH 2 (some 23) ?_
    (try simp only [Act.put, sA, sB, sC])
    refine tkH 3 (some 24) ?_
    (try simp only [Act.put, sA, sB, sC])
    refine tkH 4 (some 25) ?_
    (try simp only [Act.put, sA, sB, sC])
    refine tkH 5 (some 26) ?_
    (try simp only [Act.put, sA, sB, sC])
    refine tkH 11 (some 32) ?_
    (try simp only [Act.put, sA, sB, sC])
    refine tkH 12 (some 33) ?_
    (try simp only [Act.put, sA, sB, sC])
    refine wpAnyH_ready (rs := [1, 6]) (by kernel_rfl) (by simp) ?_
    refine AllReadyH.cons rfl (fun K hK => ?_) (AllReadyH.cons rfl (fun K hK => ?_) (AllReadyH.nil))
    ·
     obtain ⟨c0, c1⟩ := cells2 ((Ev.refl _).heap HC.out)
     go_simp
     refine hK.out _ _ (HSE.out _ (Ev.drew (Ev.refl _))) (fun hHeld => ?_)
     clear hK K
     (try simp only [Act.put, List.setIfInBounds_toArray, List.set_cons_zero, List.set_cons_succ])
     refine wpAnyH_one (i := 6) rfl (by kernel_rfl) (by rfl) (fun K hK => ?_)
     go_simp
     refine (HSZ.out _).mono ?_
     rintro e z1 ⟨rfl, hb1⟩
     have hy1 : Ev WT z1 := Ev.trans (Ev.drew (Ev.refl _)) hb1
     refine hK.out _ _ (HSE.out _ hy1) (fun hHeld => ?_)
     clear hK K
     (try simp only [Act.put, List.setIfInBounds_toArray, List.set_cons_zero, List.set_cons_succ])
     refine tkH 7 (some 28) ?_
     (try simp only [Act.put, sA, sB, sC])
     refine tkH 8 (some 29) ?_
     (try simp only [Act.put, sA, sB, sC])
     refine wpAnyH_one (i := 9) rfl (by kernel_rfl) (by rfl) (fun K hK => ?_)
     go_simp
     generalize hWA : World.alloc z1 _ = WA
     have hal := alloc1 z1 (.cells #[.int .i64 x] 3)
     have hEA : Ev WT WA := by rw [← hWA]; exact Ev.alloc hy1 _
     rw [hWA] at hal
     have HAL := hid hal.1
     have hszA : WA.heap.size = z1.heap.size + 1 := hal.2
     clear hal hWA
     refine hK.out _ _ (HSE.out _ hEA) (fun hHeld => ?_)
     clear hK K
     (try simp only [Act.put, List.setIfInBounds_toArray, List.set_cons_zero, List.set_cons_succ])
     refine wpAnyH_one (i := 10) rfl (by kernel_rfl) (by rfl) (fun K hK => ?_)
     have hown1 := hown.out.ev hEA
     have hownW1 := howW.out.ev hEA
     have hps := hEA.size
     refine wp_append_own_at (.tmp 22) (.tmp 30) 23 rfl (p + 1) 3 i0 _ 1 8 Try.underlying23 hi0 hz0 hz1 hz2 rfl (by decide) _ k (ys.flatMap ics) rfl hown1 ⟨z1.heap.size, 0, none⟩ 1 1 [.int .i64 x] rfl rfl (news_in HAL.out) (by simp [Value.oneCell']) (by unfold maxLen; omega) (by omega) (by omega) ?_
     intro v' w3 hown' hgrow hat
     have hown3 : w3.ownsRow (p + 1) 3 1 v' (k + 1) ((ys ++ [x]).flatMap ics) := by rw [List.flatMap_append]; exact hown'
     obtain ⟨V', ce', rfl⟩ := own_form hown3
     have hltA := hown1.lt
     have hltT := hown.out.lt
     have HAP := hid (hap.out.grow (fun g e => (hownW1.lt g e).2) hat)
     have HOW := hid (hownW1.kept hgrow hap.out.ne)
     have HO3 := hid hown3
     have HQP := hid ((hgrow.block p (by omega) (fun e => by have := (hltA p e.symm).1; omega)).trans (hEA.heap HC.out))
     have H0G := hid ((hgrow.block w.heap.size (by omega) (fun e => by have := (hltA _ e.symm).1; omega)).trans (hEA.heap Q0T.out))
     have H1G := hid ((hgrow.block (w.heap.size + 1) (by omega) (fun e => by have := (hltA _ e.symm).1; omega)).trans (hEA.heap Q1T.out))
     have hbg := hgrow.block W1.heap.size (by omega) (fun e => hneT (by rw [e]; rfl))
     have HS2 : Hid (∀ w', Ev w3 w' → ∀ o, w'.cell? ⟨W1.heap.size, o, none⟩ = WT.cell? ⟨W1.heap.size, o, none⟩) := hid (fun w' h o => (h.cells.1 _ o (by have := hgrow.size; omega)).trans ((World.cell?_of_block hbg).trans (HSE.out _ hEA o)))
     have HE3 := hid (Ev.grown (hEW.trans hEA) hgrow (fun k e => by have := (hltA k e).1; omega))
     have hs3 := hgrow.size
     clear hbg hltA hltT hown' hgrow hown1 hown3 hownW1 hat
     refine hK.out _ _ (HS2.out _ (Ev.refl _)) (fun hHeld => ?_)
     clear hK K
     (try simp only [Act.put, List.setIfInBounds_toArray, List.set_cons_zero, List.set_cons_succ])
     refine tkH 15 (some 36) ?_
     (try simp only [Act.put, sA, sB, sC])
     refine wpAnyH_one (i := 13) rfl (by kernel_rfl) (by rfl) (fun K hK => ?_)
     go_simp
     refine (HSZ.out _).mono ?_
     rintro e z5 ⟨rfl, hb5⟩
     refine hK.out _ _ (HS2.out _ hb5) (fun hHeld => ?_)
     clear hK K
     (try simp only [Act.put, List.setIfInBounds_toArray, List.set_cons_zero, List.set_cons_succ])
     refine tkH 14 (some 35) ?_
     (try simp only [Act.put, sA, sB, sC])
     refine wpAnyH_one (i := 16) rfl (by kernel_rfl) (by rfl) (fun K hK => ?_)
     obtain ⟨c0, c1⟩ := cells2 (hb5.heap HQP.out)
     obtain ⟨f0, f1⟩ := frz2 (hb5.heap HQP.out)
     have hneP : W1.heap.size ≠ p := by omega
     go_simp
     refine hK.out _ _ (fun o => (cell_set_ne hneP).trans (HS2.out _ hb5 o)) (fun hHeld => ?_)
     clear hK K
     (try simp only [Act.put, List.setIfInBounds_toArray, List.set_cons_zero, List.set_cons_succ])
     refine tkH 17 (some 1) ?_
     (try simp only [Act.put, sA, sB, sC])
     refine wpAnyH_done (by kernel_rfl) ?_ _
     go_wp2_with fail
     go_meet
     have hq5 := hb5.heap HQP.out
     refine ⟨rfl, V', ce', Ev.setCell (HE3.out.trans hb5) (by simp; omega) _, hid (set_heap (hb5.heap H0G.out) (by omega)), hid (set_heap (hb5.heap H1G.out) (by omega)), hid ?_, hid (own_set (HO3.out.ev hb5) hq5 (by decide)), hid (own_set (HOW.out.ev hb5) hq5 (by decide)), HAP⟩
     rw [set_heap_same hq5]
     rfl
    ·
     go_simp
     refine (HSZ.out _).mono ?_
     rintro e z1 ⟨rfl, hb1⟩
     have hy1 : Ev WT z1 := Ev.trans (Ev.drew (Ev.refl _)) hb1
     refine hK.out _ _ (HSE.out _ hy1) (fun hHeld => ?_)
     clear hK K
     (try simp only [Act.put, List.setIfInBounds_toArray, List.set_cons_zero, List.set_cons_succ])
     refine tkH 7 (some 28) ?_
     (try simp only [Act.put, sA, sB, sC])
     refine tkH 8 (some 29) ?_
     (try simp only [Act.put, sA, sB, sC])
     refine wpAnyH_ready (rs := [1, 9]) (by kernel_rfl) (by simp) ?_
     refine AllReadyH.cons rfl (fun K hK => ?_) (AllReadyH.cons rfl (fun K hK => ?_) (AllReadyH.nil))
     ·
      obtain ⟨c0, c1⟩ := cells2 (hy1.heap HC.out)
      go_simp
      refine hK.out _ _ (HSE.out _ hy1) (fun hHeld => ?_)
      clear hK K
      (try simp only [Act.put, List.setIfInBounds_toArray, List.set_cons_zero, List.set_cons_succ])
      refine wpAnyH_one (i := 9) rfl (by kernel_rfl) (by rfl) (fun K hK => ?_)
      go_simp
      generalize hWA : World.alloc z1 _ = WA
      have hal := alloc1 z1 (.cells #[.int .i64 x] 3)
      have hEA : Ev WT WA := by rw [← hWA]; exact Ev.alloc hy1 _
      rw [hWA] at hal
      have HAL := hid hal.1
      have hszA : WA.heap.size = z1.heap.size + 1 := hal.2
      clear hal hWA
      refine hK.out _ _ (HSE.out _ hEA) (fun hHeld => ?_)
      clear hK K
      (try simp only [Act.put, List.setIfInBounds_toArray, List.set_cons_zero, List.set_cons_succ])
      refine wpAnyH_one (i := 10) rfl (by kernel_rfl) (by rfl) (fun K hK => ?_)
      have hown1 := hown.out.ev hEA
      have hownW1 := howW.out.ev hEA
      have hps := hEA.size
      refine wp_append_own_at (.tmp 22) (.tmp 30) 23 rfl (p + 1) 3 i0 _ 1 8 Try.underlying23 hi0 hz0 hz1 hz2 rfl (by decide) _ k (ys.flatMap ics) rfl hown1 ⟨z1.heap.size, 0, none⟩ 1 1 [.int .i64 x] rfl rfl (news_in HAL.out) (by simp [Value.oneCell']) (by unfold maxLen; omega) (by omega) (by omega) ?_
      intro v' w3 hown' hgrow hat
      have hown3 : w3.ownsRow (p + 1) 3 1 v' (k + 1) ((ys ++ [x]).flatMap ics) := by rw [List.flatMap_append]; exact hown'
      obtain ⟨V', ce', rfl⟩ := own_form hown3
      have hltA := hown1.lt
      have hltT := hown.out.lt
      have HAP := hid (hap.out.grow (fun g e => (hownW1.lt g e).2) hat)
      have HOW := hid (hownW1.kept hgrow hap.out.ne)
      have HO3 := hid hown3
      have HQP := hid ((hgrow.block p (by omega) (fun e => by have := (hltA p e.symm).1; omega)).trans (hEA.heap HC.out))
      have H0G := hid ((hgrow.block w.heap.size (by omega) (fun e => by have := (hltA _ e.symm).1; omega)).trans (hEA.heap Q0T.out))
      have H1G := hid ((hgrow.block (w.heap.size + 1) (by omega) (fun e => by have := (hltA _ e.symm).1; omega)).trans (hEA.heap Q1T.out))
      have hbg := hgrow.block W1.heap.size (by omega) (fun e => hneT (by rw [e]; rfl))
      have HS2 : Hid (∀ w', Ev w3 w' → ∀ o, w'.cell? ⟨W1.heap.size, o, none⟩ = WT.cell? ⟨W1.heap.size, o, none⟩) := hid (fun w' h o => (h.cells.1 _ o (by have := hgrow.size; omega)).trans ((World.cell?_of_block hbg).trans (HSE.out _ hEA o)))
      have HE3 := hid (Ev.grown (hEW.trans hEA) hgrow (fun k e => by have := (hltA k e).1; omega))
      have hs3 := hgrow.size
      clear hbg hltA hltT hown' hgrow hown1 hown3 hownW1 hat
      refine hK.out _ _ (HS2.out _ (Ev.refl _)) (fun hHeld => ?_)
      clear hK K
      (try simp only [Act.put, List.setIfInBounds_toArray, List.set_cons_zero, List.set_cons_succ])
      refine tkH 15 (some 36) ?_
      (try simp only [Act.put, sA, sB, sC])
      refine wpAnyH_one (i := 13) rfl (by kernel_rfl) (by rfl) (fun K hK => ?_)
      go_simp
      refine (HSZ.out _).mono ?_
      rintro e z5 ⟨rfl, hb5⟩
      refine hK.out _ _ (HS2.out _ hb5) (fun hHeld => ?_)
      clear hK K
      (try simp only [Act.put, List.setIfInBounds_toArray, List.set_cons_zero, List.set_cons_succ])
      refine tkH 14 (some 35) ?_
      (try simp only [Act.put, sA, sB, sC])
      refine wpAnyH_one (i := 16) rfl (by kernel_rfl) (by rfl) (fun K hK => ?_)
      obtain ⟨c0, c1⟩ := cells2 (hb5.heap HQP.out)
      obtain ⟨f0, f1⟩ := frz2 (hb5.heap HQP.out)
      have hneP : W1.heap.size ≠ p := by omega
      go_simp
      refine hK.out _ _ (fun o => (cell_set_ne hneP).trans (HS2.out _ hb5 o)) (fun hHeld => ?_)
      clear hK K
      (try simp only [Act.put, List.setIfInBounds_toArray, List.set_cons_zero, List.set_cons_succ])
      refine tkH 17 (some 1) ?_
      (try simp only [Act.put, sA, sB, sC])
      refine wpAnyH_done (by kernel_rfl) ?_ _
      go_wp2_with fail
      go_meet
      have hq5 := hb5.heap HQP.out
      refine ⟨rfl, V', ce', Ev.setCell (HE3.out.trans hb5) (by simp; omega) _, hid (set_heap (hb5.heap H0G.out) (by omega)), hid (set_heap (hb5.heap H1G.out) (by omega)), hid ?_, hid (own_set (HO3.out.ev hb5) hq5 (by decide)), hid (own_set (HOW.out.ev hb5) hq5 (by decide)), HAP⟩
      rw [set_heap_same hq5]
      rfl
     ·
      go_simp
      generalize hWA : World.alloc z1 _ = WA
      have hal := alloc1 z1 (.cells #[.int .i64 x] 3)
      have hEA : Ev WT WA := by rw [← hWA]; exact Ev.alloc hy1 _
      rw [hWA] at hal
      have HAL := hid hal.1
      have hszA : WA.heap.size = z1.heap.size + 1 := hal.2
      clear hal hWA
      refine hK.out _ _ (HSE.out _ hEA) (fun hHeld => ?_)
      clear hK K
      (try simp only [Act.put, List.setIfInBounds_toArray, List.set_cons_zero, List.set_cons_succ])
      refine wpAnyH_one (i := 1) rfl (by kernel_rfl) (by rfl) (fun K hK => ?_)
      obtain ⟨c0, c1⟩ := cells2 (hEA.heap HC.out)
      go_simp
      refine hK.out _ _ (HSE.out _ hEA) (fun hHeld => ?_)
      clear hK K
      (try simp only [Act.put, List.setIfInBounds_toArray, List.set_cons_zero, List.set_cons_succ])
      refine wpAnyH_one (i := 10) rfl (by kernel_rfl) (by rfl) (fun K hK => ?_)
      have hown1 := hown.out.ev hEA
      have hownW1 := howW.out.ev hEA
      have hps := hEA.size
      refine wp_append_own_at (.tmp 22) (.tmp 30) 23 rfl (p + 1) 3 i0 _ 1 8 Try.underlying23 hi0 hz0 hz1 hz2 rfl (by decide) _ k (ys.flatMap ics) rfl hown1 ⟨z1.heap.size, 0, none⟩ 1 1 [.int .i64 x] rfl rfl (news_in HAL.out) (by simp [Value.oneCell']) (by unfold maxLen; omega) (by omega) (by omega) ?_
      intro v' w3 hown' hgrow hat
      have hown3 : w3.ownsRow (p + 1) 3 1 v' (k + 1) ((ys ++ [x]).flatMap ics) := by rw [List.flatMap_append]; exact hown'
      obtain ⟨V', ce', rfl⟩ := own_form hown3
      have hltA := hown1.lt
      have hltT := hown.out.lt
      have HAP := hid (hap.out.grow (fun g e => (hownW1.lt g e).2) hat)
      have HOW := hid (hownW1.kept hgrow hap.out.ne)
      have HO3 := hid hown3
      have HQP := hid ((hgrow.block p (by omega) (fun e => by have := (hltA p e.symm).1; omega)).trans (hEA.heap HC.out))
      have H0G := hid ((hgrow.block w.heap.size (by omega) (fun e => by have := (hltA _ e.symm).1; omega)).trans (hEA.heap Q0T.out))
      have H1G := hid ((hgrow.block (w.heap.size + 1) (by omega) (fun e => by have := (hltA _ e.symm).1; omega)).trans (hEA.heap Q1T.out))
      have hbg := hgrow.block W1.heap.size (by omega) (fun e => hneT (by rw [e]; rfl))
      have HS2 : Hid (∀ w', Ev w3 w' → ∀ o, w'.cell? ⟨W1.heap.size, o, none⟩ = WT.cell? ⟨W1.heap.size, o, none⟩) := hid (fun w' h o => (h.cells.1 _ o (by have := hgrow.size; omega)).trans ((World.cell?_of_block hbg).trans (HSE.out _ hEA o)))
      have HE3 := hid (Ev.grown (hEW.trans hEA) hgrow (fun k e => by have := (hltA k e).1; omega))
      have hs3 := hgrow.size
      clear hbg hltA hltT hown' hgrow hown1 hown3 hownW1 hat
      refine hK.out _ _ (HS2.out _ (Ev.refl _)) (fun hHeld => ?_)
      clear hK K
      (try simp only [Act.put, List.setIfInBounds_toArray, List.set_cons_zero, List.set_cons_succ])
      refine tkH 15 (some 36) ?_
      (try simp only [Act.put, sA, sB, sC])
      refine wpAnyH_one (i := 13) rfl (by kernel_rfl) (by rfl) (fun K hK => ?_)
      go_simp
      refine (HSZ.out _).mono ?_
      rintro e z5 ⟨rfl, hb5⟩
      refine hK.out _ _ (HS2.out _ hb5) (fun hHeld => ?_)
      clear hK K
      (try simp only [Act.put, List.setIfInBounds_toArray, List.set_cons_zero, List.set_cons_succ])
      refine tkH 14 (some 35) ?_
      (try simp only [Act.put, sA, sB, sC])
      refine wpAnyH_one (i := 16) rfl (by kernel_rfl) (by rfl) (fun K hK => ?_)
      obtain ⟨c0, c1⟩ := cells2 (hb5.heap HQP.out)
      obtain ⟨f0, f1⟩ := frz2 (hb5.heap HQP.out)
      have hneP : W1.heap.size ≠ p := by omega
      go_simp
      refine hK.out _ _ (fun o => (cell_set_ne hneP).trans (HS2.out _ hb5 o)) (fun hHeld => ?_)
      clear hK K
      (try simp only [Act.put, List.setIfInBounds_toArray, List.set_cons_zero, List.set_cons_succ])
      refine tkH 17 (some 1) ?_
      (try simp only [Act.put, sA, sB, sC])
      refine wpAnyH_done (by kernel_rfl) ?_ _
      go_wp2_with fail
      go_meet
      have hq5 := hb5.heap HQP.out
      refine ⟨rfl, V', ce', Ev.setCell (HE3.out.trans hb5) (by simp; omega) _, hid (set_heap (hb5.heap H0G.out) (by omega)), hid (set_heap (hb5.heap H1G.out) (by omega)), hid ?_, hid (own_set (HO3.out.ev hb5) hq5 (by decide)), hid (own_set (HOW.out.ev hb5) hq5 (by decide)), HAP⟩
      rw [set_heap_same hq5]
      rfl
   case rest =>
    clear hown howW hap HC Q0T Q1T HSE HT t0 t1
    obtain ⟨rfl, V', ce', hB5, Q0, Q1, HC, hown, howW, hap⟩ := hcut
    obtain ⟨W5, hW5⟩ : ∃ x, x = wc := ⟨_, rfl⟩
    subst hW5
    have hB5s := hB5.size
    obtain ⟨q0, q1, q2, q3, q4, q5, q6, q7, q8⟩ := cells9 Q0.out
    obtain ⟨c0, c1⟩ := cells2 HC.out
    have lp5 := heap_lt HC.out
    obtain ⟨b2', off2, s', hA2, hb2, hy, _, e2⟩ := HCS.out.w_.int hB5 (show k < nw by omega)
    rw [hsy] at hy
    obtain rfl : s = s' := by simpa using hy
    have hcap2 := HCS.out.w_.cap
    subst hA2
    clear hy hsy
    by_cases hs3 : s = 2
    ·
     subst hs3
     have d1 : (md : Int).tmod 2 = ((md % 2 : Nat) : Int) := by rw [Int.tmod_eq_emod_of_nonneg (by omega)]; exact (Int.natCast_emod md 2).symm
     have d2 : (md : Int).tdiv 2 = ((md / 2 : Nat) : Int) := by rw [Int.tdiv_eq_ediv_of_nonneg (by omega)]; exact (Int.natCast_ediv md 2).symm
     have d3 : (md : Int) % 2 = ((md % 2 : Nat) : Int) := (Int.natCast_emod md 2).symm
     have d4 : (md : Int) / 2 = ((md / 2 : Nat) : Int) := (Int.natCast_ediv md 2).symm
     rw [show M.wayN 2 = 2 from rfl] at hP2 hU2
     rw [show M.wOf 2 md = ((md % 2 : Nat) : Int) from rfl] at hU2
     have b5 : md % 2 < 2 := Nat.mod_lt _ (by omega)
     have b6 : md / 2 ≤ md := Nat.div_le_self _ _
     generalize md % 2 = u at d1 d3 hU2 b5
     generalize md / 2 = md2 at d2 d4 hP2 hU2 b6
     have g4 : IntKind.i64.wrap (u : Int) = u := IntWalk.i64_in _ (by omega)
     have g5 : IntKind.i64.wrap (md2 : Int) = md2 := IntWalk.i64_in _ (by omega)
     have HP2 : Hid ((ys ++ [x]) ++ M.ngr (f.gr.drop (k + 1)) (f.wet.drop (k + 1)) md2 = M.ngr f.gr f.wet n) := hid (by rw [List.append_assoc]; exact hP2)
     have HU2 : Hid ((us ++ [(u : Int)]) ++ M.nwt (f.gr.drop (k + 1)) (f.wet.drop (k + 1)) md2 = M.nwt f.gr f.wet n) := hid (by rw [List.append_assoc]; exact hU2)
     clear hP2 hU2
     go_wp2_with (at_builtin; go_loud (refine wpList_append_own_at _ rfl (.tmp 49) (.tmp 51) 23 rfl (p + 1) 3 i0 _ 1 8 Try.underlying23 hi0 hz0 hz1 hz2 rfl (by decide) _ k (us.flatMap ics) rfl (howW.out.alloc _) ⟨W5.heap.size, 0, none⟩ 1 1 [.int .i64 (u : Int)] rfl rfl (news_in (alloc1 W5 _).1) (by simp [Value.oneCell']) (by unfold maxLen; omega) (by omega) (by simp; omega) ?_; intro v' w3 hown' hgrow _ hat; have hown3 : w3.ownsRow (p + 1) 3 1 v' (k + 1) ((us ++ [(u : Int)]).flatMap ics) := (by rw [List.flatMap_append]; exact hown'); obtain ⟨Vw', cf', rfl⟩ := own_form hown3; have hltA := (howW.out.alloc (.cells #[.int .i64 (u : Int)] 3)).lt; have hb0 : Ev W5 (World.alloc W5 (.cells #[.int .i64 (u : Int)] 3)) := Ev.alloc (Ev.refl _) _; have HAP := hid (hap.out.symm.grow (fun g e => by have := (hown.out.lt g e).2; simp; omega) hat).symm; have HOG := hid ((hown.out.alloc (.cells #[.int .i64 (u : Int)] 3)).kept hgrow hap.out.symm.ne); have HO3 := hid hown3; have HQP := hid ((hgrow.block p (by simp; omega) (fun e => by have := (hltA p e.symm).1; omega)).trans (hb0.heap HC.out)); have H0G := hid ((hgrow.block w.heap.size (by simp; omega) (fun e => by have := (hltA _ e.symm).1; omega)).trans (hb0.heap Q0.out)); have H1G := hid ((hgrow.block (w.heap.size + 1) (by simp; omega) (fun e => by have := (hltA _ e.symm).1; omega)).trans (hb0.heap Q1.out)); have HE3 := hid (Ev.grown (hB5.trans hb0) hgrow (fun k e => by have := (hltA k e).1; omega)); obtain ⟨g0, g1⟩ := cells2 HQP.out; obtain ⟨f0, f1⟩ := frz2 HQP.out; clear hltA hown' hgrow hown3 hat hb0))
     refine ⟨⟨k + 1, md2, ys ++ [x], us ++ [(u : Int)], V', Vw', ce', cf', rfl, by go_num, by omega, by omega, Ev.setCell HE3.out (by simp; omega) _, hid (set_heap H0G.out (by omega)), hid (set_heap H1G.out (by omega)), hid ?_, hid (own_set HOG.out HQP.out (by decide)), hid (own_set HO3.out HQP.out (by decide)), HAP, HP2, HU2⟩, by simp [intOf]; omega⟩
     rw [set_heap_same HQP.out]
     rfl
    ·
     rw [show M.wayN s = 1 from if_neg hs3, Nat.div_one] at hP2 hU2
     rw [show M.wOf s md = s from if_neg hs3] at hU2
     have HP2 : Hid ((ys ++ [x]) ++ M.ngr (f.gr.drop (k + 1)) (f.wet.drop (k + 1)) md = M.ngr f.gr f.wet n) := hid (by rw [List.append_assoc]; exact hP2)
     have HU2 : Hid ((us ++ [s]) ++ M.nwt (f.gr.drop (k + 1)) (f.wet.drop (k + 1)) md = M.nwt f.gr f.wet n) := hid (by rw [List.append_assoc]; exact hU2)
     clear hP2 hU2
     go_wp2_with (at_builtin; go_loud (refine wpList_append_own_at _ rfl (.tmp 49) (.tmp 51) 23 rfl (p + 1) 3 i0 _ 1 8 Try.underlying23 hi0 hz0 hz1 hz2 rfl (by decide) _ k (us.flatMap ics) rfl (howW.out.alloc _) ⟨W5.heap.size, 0, none⟩ 1 1 [.int .i64 s] rfl rfl (news_in (alloc1 W5 _).1) (by simp [Value.oneCell']) (by unfold maxLen; omega) (by omega) (by simp; omega) ?_; intro v' w3 hown' hgrow _ hat; have hown3 : w3.ownsRow (p + 1) 3 1 v' (k + 1) ((us ++ [s]).flatMap ics) := (by rw [List.flatMap_append]; exact hown'); obtain ⟨Vw', cf', rfl⟩ := own_form hown3; have hltA := (howW.out.alloc (.cells #[.int .i64 s] 3)).lt; have hb0 : Ev W5 (World.alloc W5 (.cells #[.int .i64 s] 3)) := Ev.alloc (Ev.refl _) _; have HAP := hid (hap.out.symm.grow (fun g e => by have := (hown.out.lt g e).2; simp; omega) hat).symm; have HOG := hid ((hown.out.alloc (.cells #[.int .i64 s] 3)).kept hgrow hap.out.symm.ne); have HO3 := hid hown3; have HQP := hid ((hgrow.block p (by simp; omega) (fun e => by have := (hltA p e.symm).1; omega)).trans (hb0.heap HC.out)); have H0G := hid ((hgrow.block w.heap.size (by simp; omega) (fun e => by have := (hltA _ e.symm).1; omega)).trans (hb0.heap Q0.out)); have H1G := hid ((hgrow.block (w.heap.size + 1) (by simp; omega) (fun e => by have := (hltA _ e.symm).1; omega)).trans (hb0.heap Q1.out)); have HE3 := hid (Ev.grown (hB5.trans hb0) hgrow (fun k e => by have := (hltA k e).1; omega)); obtain ⟨g0, g1⟩ := cells2 HQP.out; obtain ⟨f0, f1⟩ := frz2 HQP.out; clear hltA hown' hgrow hown3 hat hb0))
     refine ⟨⟨k + 1, md, ys ++ [x], us ++ [s], V', Vw', ce', cf', rfl, by go_num, by omega, by omega, Ev.setCell HE3.out (by simp; omega) _, hid (set_heap H0G.out (by omega)), hid (set_heap H1G.out (by omega)), hid ?_, hid (own_set HOG.out HQP.out (by decide)), hid (own_set HO3.out HQP.out (by decide)), HAP, HP2, HU2⟩, by simp [intOf]; omega⟩
     rw [set_heap_same HQP.out]
     rfl
  ·
   obtain rfl : k = nw := by omega
   have hP2 := hP.out
   have hU2 := hU.out
   rw [show f.wet.drop k = [] from List.drop_eq_nil_of_le (by omega)] at hP2 hU2
   have hgn : ∀ (l : List M.Rg) (q : Nat), M.ngr l [] q = [] := fun l q => by cases l <;> rfl
   have hwn : ∀ (l : List M.Rg) (q : Nat), M.nwt l [] q = [] := fun l q => by cases l <;> rfl
   rw [hgn, List.append_nil] at hP2
   rw [hwn, List.append_nil] at hU2
   have hn2 : ¬ ((k : Int) < k) := by omega
   obtain ⟨c0, c1⟩ := cells2 hC.out
   obtain ⟨z0, z1⟩ := cells2 hQ1.out
   obtain ⟨f0, f1⟩ := frz2 hQ1.out
   clear hP hU
   go_wp2_with fail
   have hF := set2 (v0 := (.slice Vg k ce : Value)) (v1 := (.slice Vw k cf : Value)) hQ1.out
   obtain ⟨d0, d1⟩ := cells2 hF
   have o1 := own_base (b' := w.heap.size) (own_set (j := 1) (u := (.slice Vw k cf : Value)) (own_set (j := 0) (u := (.slice Vg k ce : Value)) hown.out hQ1.out (by decide)) (set_heap_same hQ1.out) (by decide)) (by omega)
   have o2 := own_base (b' := w.heap.size) (own_set (j := 1) (u := (.slice Vw k cf : Value)) (own_set (j := 0) (u := (.slice Vg k ce : Value)) howW.out hQ1.out (by decide)) (set_heap_same hQ1.out) (by decide)) (by omega)
   have hap' := hap.out
   subst hP2 hU2
   refine bodyPost_ret (v := .agg #[.slice Vg k ce, .slice Vw k cf]) (by simp [results, Try.results42, go_sem, d0, d1]) rfl ⟨⟨Vg, ce, Vw, cf, rfl, o1, o2, hap'⟩, ?_⟩
   exact Ev.setCell (Ev.setCell hB (by simp) _) (by simp) _

end Go.Proofs.Ytffbkbcjddigdaa
