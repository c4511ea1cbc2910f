import Derived.Test.YtgimcephbeajlaaC4
set_option linter.unusedSimpArgs false
set_option linter.unusedVariables false
namespace Go.Proofs.Ytgimcephbeajlaa
open Go.RowKit Go.Shelf

theorem M.inAll_mem : ∀ (ns : List Int) (rs : List M.Rg), M.inAll ns rs = true → ∀ n ∈ ns, ∃ r ∈ rs, M.holds r n = true
 | [], _, _, n, hn => by simp at hn
 | x :: xs, [], h, _, _ => by simp [M.inAll] at h
 | x :: xs, r :: rs, h, n, hn => by
  rw [M.inAll, Bool.and_eq_true] at h
  rcases List.mem_cons.1 hn with rfl | hn
  ·
   exact ⟨r, by simp, h.1⟩
  ·
   obtain ⟨r', hr, hh⟩ := M.inAll_mem xs rs h.2 n hn
   exact ⟨r', by simp [hr], hh⟩
theorem getD_bd {l : List Int} {lo hi : Int} (h0 : lo ≤ 0) (h1 : 0 ≤ hi) (h : ∀ x ∈ l, lo ≤ x ∧ x ≤ hi) (k : Nat) : lo ≤ l.getD k 0 ∧ l.getD k 0 ≤ hi := by
 rw [List.getD_eq_getElem?_getD]
 cases hx : l[k]? with
 | none => exact ⟨h0, h1⟩
 | some x => exact h x (List.mem_of_getElem? hx)
theorem M.cool_bd {f : M.Cf} (ht : 0 ≤ f.cool ∧ f.cool ≤ 100) {a : Int} (h0 : 0 ≤ a) (b : Bool) : 0 ≤ M.cool f a b ∧ M.cool f a b ≤ a := by
 unfold M.cool
 split
 ·
  have h1 : a * f.cool ≤ a * 100 := Int.mul_le_mul_of_nonneg_left ht.2 h0
  have h2 : 0 ≤ a * f.cool := Int.mul_nonneg h0 ht.1
  omega
 ·
  omega
/-- The heats of some hours, of which the first has the number k. -/
def M.hK (f : M.Cf) (turns : List Int) : List Int → Nat → Int → List Int
 | [], _, _ => []
 | x :: xs, k, m => (M.cool f m (decide ((k : Int) ∈ turns)) + f.size * x / 10) :: M.hK f turns xs (k + 1) (M.cool f m (decide ((k : Int) ∈ turns)) + f.size * x / 10)
def M.heats (f : M.Cf) (t : M.Tr) (turns : List Int) : List Int := M.hK f turns t.wet 0 t.st ++ List.replicate (10 - t.wet.length) 0
theorem M.hK_len (f : M.Cf) (turns : List Int) : ∀ (xs : List Int) (k : Nat) (m : Int), (M.hK f turns xs k m).length = xs.length
 | [], _, _ => rfl
 | x :: xs, k, m => by rw [M.hK, List.length_cons, List.length_cons, M.hK_len f turns xs]
theorem M.rise_bd {f : M.Cf} (hs : 0 ≤ f.size ∧ f.size ≤ 20) {x : Int} (hx : 0 ≤ x ∧ x ≤ 20) : 0 ≤ f.size * x ∧ f.size * x ≤ 400 :=
 ⟨Int.mul_nonneg hs.1 hx.1, by have := Int.mul_le_mul hs.2 hx.2 hx.1 (by omega); omega⟩
theorem M.hK_bd {f : M.Cf} (hs : 0 ≤ f.size ∧ f.size ≤ 20) (hc : 0 ≤ f.cool ∧ f.cool ≤ 100) (turns : List Int) : ∀ (xs : List Int) (k : Nat) (m : Int), 0 ≤ m → (∀ x ∈ xs, 0 ≤ x ∧ x ≤ 20) → ∀ y ∈ M.hK f turns xs k m, 0 ≤ y ∧ y ≤ m + 40 * xs.length
 | [], _, _, _, _, y, hy => by simp [M.hK] at hy
 | x :: xs, k, m, hm, hx, y, hy => by
  have h1 := M.rise_bd hs (hx x (by simp))
  have h2 : ∀ y ∈ xs, 0 ≤ y ∧ y ≤ 20 := fun y hy => hx y (by simp [hy])
  have h3 := M.cool_bd hc hm (decide ((k : Int) ∈ turns))
  rw [M.hK, List.mem_cons] at hy
  rw [List.length_cons]
  generalize M.cool f m (decide ((k : Int) ∈ turns)) = c at hy h3
  generalize f.size * x = q at hy h1
  rcases hy with rfl | hy
  ·
   omega
  ·
   have := M.hK_bd hs hc turns xs (k + 1) (c + q / 10) (by omega) h2 y hy
   omega
theorem M.listed_bd {f : M.Cf} (hv : M.valid f = true) {t : M.Tr} (h : M.listed f t = true) : (0 ≤ t.st ∧ t.st ≤ 500) ∧ t.wet.length = f.wet.length ∧ ∀ x ∈ t.wet, 0 ≤ x ∧ x ≤ 20 := by
 obtain ⟨_, _, _, a4, _⟩ := M.valid_parts hv
 unfold M.listed at h
 simp only [Bool.and_eq_true, decide_eq_true_eq] at h
 refine ⟨?_, h.2.1, fun n hn => ?_⟩
 ·
  have := h.1; unfold M.holds at this; simp only [Bool.and_eq_true, decide_eq_true_eq] at this; omega
 ·
  obtain ⟨r, hr, hh⟩ := M.inAll_mem _ _ h.2.2 n hn
  have := M.wet_bd hv r hr
  unfold M.holds at hh
  simp only [Bool.and_eq_true, decide_eq_true_eq] at hh
  omega
theorem M.heats_len {f : M.Cf} {t : M.Tr} {turns : List Int} (hl : t.wet.length ≤ 10) : (M.heats f t turns).length = 10 := by
 unfold M.heats; rw [List.length_append, M.hK_len, List.length_replicate]; omega
theorem M.heats_bd {f : M.Cf} (hv : M.valid f = true) (hl9 : f.last ≤ 9) {t : M.Tr} (h : M.listed f t = true) (turns : List Int) : ∀ y ∈ M.heats f t turns, 0 ≤ y ∧ y ≤ 900 := by
 obtain ⟨s1, c1, _, _, _, l1, _⟩ := M.valid_parts hv
 obtain ⟨b1, b2, b3⟩ := M.listed_bd hv h
 intro y hy
 unfold M.heats at hy
 rcases List.mem_append.1 hy with hy | hy
 ·
  have := M.hK_bd s1 c1 turns t.wet 0 t.st (by omega) b3 y hy
  omega
 ·
  rw [List.mem_replicate] at hy; omega

set_option maxRecDepth 100000 in
set_option maxHeartbeats 8000000 in
theorem play_c (f : M.Cf) (Aw At Ar : Option Addr) (nw cw nt ct nr cr : Nat) (Ts Ss : Option Addr) (ns cs ms ds p mb : Nat) (Tw : Option Addr) (tw twc : Nat) (t : M.Tr) (P : Option Addr) (pn pc : Nat) (plan : List Int) (hv : M.valid f = true) (hl9 : f.last ≤ 9) (htr : M.listed f t = true) (g : Value → Option Value) (hgl : Loads f g) (w : World)
  (hw : w.heap[p]? = some (.cells #[.int .i64 f.last, .int .i64 f.size, .int .i64 f.cool, .int .i64 f.die, .int .i64 f.burn, .int .i64 f.st.lo, .int .i64 f.st.hi, .slice Aw nw cw, .slice At nt ct, .slice Ar nr cr, .slice Ts ns cs, .slice Ss ms ds, .map (some mb)] 136 (0, 0))) (hm : MapIs Try.prog 139 w mb g) (hwt : Sl ics 1 w w.heap.size Tw tw twc t.wet) (hp : Sl ics 1 w w.heap.size P pn pc plan) :
  Calls Try.prog 68 #[.pointer (some ⟨p, 0, none⟩), .agg #[.int .i64 t.st, .slice Tw tw twc], .slice P pn pc] w fun e w' => e = .returned (sv (M.heats f t plan)) ∧ (∃ g', Loads f g' ∧ MapIs Try.prog 139 w' mb g') ∧ Mo mb w w' := by
 obtain ⟨v1, v2, v3, v4, v5, v6, v7, v8, v9⟩ := M.valid_parts hv
 obtain ⟨t1, t2, t3⟩ := M.listed_bd hv htr
 have htw : (tw : Int) = f.last + 1 := by have := hwt.len; omega
 have htw10 : tw ≤ 10 := by omega
 have s0 : IntKind.i64.wrap (f.last + 1) = (tw : Int) := by rw [← htw]; exact IntWalk.i64_in _ (by omega)
 have hpw := heap_lt hw
 have hpm := map_ne hm hw
 have hml := hm.lt
 have zl : w.cell? ⟨p, 0, none⟩ = some (.int .i64 f.last) := (cell_in hw 0).trans rfl
 have HWL := hid hw
 have HM := hid hm
 have HWT := hid hwt
 have HP := hid hp
 have HT3 := hid t3
 have hwn := hwt.len
 have hps := hp.small
 have hws := hwt.small
 clear htw v3 v4 v5 v6 v7 v8 v9 t2 t3 hv htr hl9 hw hwt hp hm
 go_enter Try.func68, Try.ntmps68
 go_upto_region 3 with fail
 generalize hW0 : World.alloc _ _ = W0
 have hal := alloc2 w (.cells #[.int .i64 t.st, .slice Tw tw twc] 42) (.cells #[.int .i64 0, .int .i64 0, .int .i64 0, .int .i64 0, .int .i64 0, .int .i64 0, .int .i64 0, .int .i64 0, .int .i64 0, .int .i64 0] 109)
 have hE0 : Ev w W0 := by rw [← hW0]; exact Ev.alloc (Ev.alloc (Ev.refl _) _) _
 rw [hW0] at hal
 have QT := hid hal.1
 have QA := hid hal.2.1
 have QP := hid (hE0.heap HWL.out)
 have hmA : mb ≠ w.heap.size + 1 := by omega
 have hmT : w.heap.size ≠ mb := by omega
 clear hal hW0 zl
 go_loopw [7, 17] (fun m i wr => ∃ k : Nat, ∃ x : Int, ∃ l : List Int, ∃ g' : Value → Option Value, m = .int .i64 x ∧ i = .int .i64 k ∧ k ≤ tw ∧ 0 ≤ x ∧ x ≤ 500 + 40 * k ∧ l.length = 10 ∧ Mo mb w wr ∧ Loads f g' ∧ MapIs Try.prog 139 wr mb g' ∧ Hid (wr.heap[w.heap.size]? = some (.cells #[.int .i64 t.st, .slice Tw tw twc] 42 (0, 0))) ∧ Hid (wr.heap[w.heap.size + 1]? = some (.cells (l.map (Value.int .i64)).toArray 109 (0, 0))) ∧ Hid (l.take k ++ M.hK f plan (t.wet.drop k) k x = M.hK f plan t.wet 0 t.st) ∧ Hid (l.drop k = List.replicate (10 - k) 0)) (fun _ i _ => tw - (intOf i).toNat)
 case atStart => exact ⟨0, t.st, List.replicate 10 0, g, rfl, rfl, by omega, by omega, by omega, by simp, Mo.ev hE0, hgl, HM.out.keep hE0 hml, QT, hid QA.out, hid rfl, hid rfl⟩
 case round =>
  obtain ⟨k, x, l, g', rfl, rfl, hk, hx0, hx1, hll, hB, hL, hMr, hTr, hA, hM, hR⟩ := hrel
  have hlA := heap_lt hA.out
  have hlT := heap_lt hTr.out
  by_cases hlt : k < tw
  ·
   have hwr := HWT.out.mo HM.out hB (Nat.le_refl _) hB.size
   have hpr := HP.out.mo HM.out hB (Nat.le_refl _) hB.size
   have HPR := hid (hB.heap HWL.out hpm)
   obtain ⟨bw, ow, y, rfl, hbw, hyx, hyd, e1⟩ := hwr.int (Below.refl _ _) hlt
   have hwcap := hwr.cap
   have hyb := HT3.out y (List.mem_of_getElem? hyx)
   have hM2 := hM.out
   rw [hyd, M.hK] at hM2
   have hcon := contains_c P pn pc plan (k : Int) wr hpr
   obtain ⟨bb, hbb⟩ : ∃ bb, decide ((k : Int) ∈ plan) = bb := ⟨_, rfl⟩
   rw [hbb] at hcon hM2
   have HC := hid hcon
   have hcb := M.cool_bd v2 hx0 bb
   have HCO := hid (fun W hW hM => cool_c f Aw At Ar nw cw nt ct nr cr Ts Ss ns cs ms ds p mb x bb hx0 (by omega) v2 g' hL W hW hM)
   obtain ⟨cc, hcc⟩ : ∃ cc, M.cool f x bb = cc := ⟨_, rfl⟩
   rw [hcc] at hcb HCO hM2
   have hrb := M.rise_bd v1 hyb
   obtain ⟨q, hq⟩ : ∃ q : Int, f.size * y = q := ⟨_, rfl⟩
   rw [hq] at hrb hM2
   have r1 : q.tdiv 10 = q / 10 := Int.tdiv_eq_ediv_of_nonneg hrb.1
   have r2 : IntKind.i64.wrap q = q := IntWalk.i64_in _ (by omega)
   obtain ⟨d, hd⟩ : ∃ d : Int, q / 10 = d := ⟨_, rfl⟩
   rw [hd] at hM2
   have r3 : IntKind.i64.wrap d = d := IntWalk.i64_in _ (by omega)
   have r4 : IntKind.i64.wrap (cc + d) = cc + d := IntWalk.i64_in _ (by omega)
   have hdb : 0 ≤ d ∧ d ≤ 40 := by omega
   have HM3 := hid hM2
   have hkl : k < l.length := by omega
   have hold : (l.map (Value.int .i64)).toArray[k]? = some (.int .i64 (l[k]'hkl)) := by simp [List.getElem?_eq_getElem hkl]
   generalize l[k]'hkl = old at hold
   have HOLD := hid hold
   have HLL := hid hll
   have HRR := hid (show (l.set k (cc + d)).drop (k + 1) = List.replicate (10 - (k + 1)) 0 by
    rw [List.drop_set_of_lt (by omega), ← List.drop_drop, hR.out, List.drop_replicate]; congr 1)
   have HTT := hid (take_set_succ (x := cc + d) hkl)
   have hbwm := map_ne_cell hMr e1
   have HMR := hid hMr
   have HE1 := hid e1
   have k10 : (k : Int) < 10 := by omega
   have k0' : (0 : Int) ≤ k := by omega
   have ktw : (k : Int) < tw := by omega
   clear hyx hyd hM2 hM hcon hbb hcc hold hll hR hMr e1 hwr hpr
   go_upto_region 6 with (first | (go_at_call 95; with_reducible refine HC.out.mono ?_; rintro e w1 ⟨rfl, hb1⟩) | (go_at_call 94; refine (HCO.out _ (hb1.heap HPR.out) (HMR.out.keep hb1 HMR.out.lt)).mono ?_; rintro e w2 ⟨rfl, ⟨g2, hL2, hM2⟩, hb2⟩))
   have hb12 : Mo mb wr w2 := (Mo.ev hb1).trans hb2
   have hB2 : Mo mb w w2 := hB.trans hb12
   have HL2 := hid hL2
   have HM2 := hid hM2
   have HP2 := hid (hb12.heap HPR.out hpm)
   have HT2 := hid (hb12.heap hTr.out hmT)
   have HA2 := hid (hb12.heap hA.out (Ne.symm hmA))
   have e2 : w2.cell? ⟨bw, ow + k, none⟩ = some (.int .i64 y) := (hb12.cells.1 bw _ hbw hbwm).trans HE1.out
   have z0 : w2.cell? ⟨p, 1, none⟩ = some (.int .i64 f.size) := (cell_in HP2.out 1).trans rfl
   have z1 : w2.cell? ⟨p, 0, none⟩ = some (.int .i64 f.last) := (cell_in HP2.out 0).trans rfl
   obtain ⟨k0, k1⟩ := cells2 HT2.out
   have l1 := heap_lt HP2.out
   have l2 := heap_lt HT2.out
   have l3 : bw < w2.heap.size := by have := hb12.size; omega
   clear hL2 hM2 hb1 hb2 HC HCO
   have HSE : Hid (∀ w', Ev w2 w' → (∀ o, w'.cell? ⟨p, o, none⟩ = w2.cell? ⟨p, o, none⟩) ∧ (∀ o, w'.cell? ⟨w.heap.size, o, none⟩ = w2.cell? ⟨w.heap.size, o, none⟩) ∧ (∀ o, w'.cell? ⟨bw, o, none⟩ = w2.cell? ⟨bw, o, none⟩)) := hid (fun w' h => ⟨fun o => h.cells.1 _ o l1, fun o => h.cells.1 _ o l2, fun o => h.cells.1 _ o l3⟩)
   refine wp_region_held_drew (S := fun w' => (∀ o, w'.cell? ⟨p, o, none⟩ = w2.cell? ⟨p, o, none⟩) ∧ (∀ o, w'.cell? ⟨w.heap.size, o, none⟩ = w2.cell? ⟨w.heap.size, o, none⟩) ∧ (∀ o, w'.cell? ⟨bw, o, none⟩ = w2.cell? ⟨bw, o, none⟩)) (by kernel_rfl) (⟨fun o => rfl, fun o => rfl, fun o => rfl⟩) (fun hHeld => ?_)
   refine tkH 0 (some 27) ?_
   (try simp only [Act.put, sA, sB, sC])
   refine tkH 1 (some 28) ?_
   (try simp only [Act.put, sA, sB, sC])
   refine tkH 2 (some 29) ?_
   (try simp only [Act.put, sA, sB, sC])
   refine tkH 3 (some 30) ?_
   (try simp only [Act.put, sA, sB, sC])
   refine tkH 4 (some 31) ?_
   (try simp only [Act.put, sA, sB, sC])
   refine tkH 5 (some 32) ?_
   (try simp only [Act.put, sA, sB, sC])
   refine tkH 6 (some 33) ?_
   (try simp only [Act.put, sA, sB, sC])
   refine tkH 7 (some 34) ?_
   (try simp only [Act.put, sA, sB, sC])
   refine tkH 8 (some 35) ?_
   (try simp only [Act.put, sA, sB, sC])
   refine tkH 9 (some 36) ?_
   (try simp only [Act.put, sA, sB, sC])
   refine tkH 10 (some 37) ?_
   (try simp only [Act.put, sA, sB, sC])
   refine tkH 11 (some 38) ?_
   (try simp only [Act.put, sA, sB, sC])
   refine tkH 12 (some 39) ?_
   (try simp only [Act.put, sA, sB, sC])
   refine tkH 13 (some 40) ?_
   (try simp only [Act.put, sA, sB, sC])
   refine tkH 14 (some 7) ?_
   (try simp only [Act.put, sA, sB, sC])
   refine wpAnyH_done (by kernel_rfl) ?_ _
   go_upto_region 7 with fail
   generalize hW6 : World.drew w2 = W6
   have hE6 : Ev w2 W6 := by rw [← hW6]; exact Ev.drew (Ev.refl _)
   have HA6 := hid (hE6.heap HA2.out)
   have HT6 := hid (hE6.heap HT2.out)
   have HM6 := hid (HM2.out.keep hE6 HM2.out.lt)
   have hB6 : Mo mb w W6 := hB2.ev_ hE6
   have c0 : W6.cell? ⟨w.heap.size + 1, k, none⟩ = some (.int .i64 old) := (cell_in HA6.out k).trans HOLD.out
   have f0 := frozen_in HA6.out k
   have l6 := heap_lt HA6.out
   clear hW6 z0 z1 k0 k1 e2
   go_wp2_with fail
   refine ⟨⟨k + 1, cc + d, l.set k (cc + d), g2, rfl, by go_num, by omega, by omega, by omega, by rw [List.length_set]; exact HLL.out, hB6.setCell (by simp) _, HL2.out, HM6.out.same (Below.heap_setCell _ _ _ _ (by simpa using hmA)), hid (set_heap HT6.out (by omega)), hid (by rw [set_heap_same HA6.out, cells_set]), hid ?_, HRR⟩, by simp [intOf]; omega⟩
   rw [HTT.out, List.append_assoc]; exact HM3.out
  ·
   obtain rfl : k = tw := by omega
   have hfin : l = M.heats f t plan := by
    have h1 := hM.out
    rw [List.drop_eq_nil_of_le (by omega), M.hK, List.append_nil] at h1
    have h2 := hR.out
    unfold M.heats
    rw [← h1, hwn, ← h2, List.take_append_drop]
   obtain ⟨a0, a1, a2, a3, a4, a5, a6, a7, a8, a9, rfl⟩ := list10 hll
   have HF := hid hfin
   have HA := hid (show wr.heap[w.heap.size + 1]? = some (.cells #[.int .i64 a0, .int .i64 a1, .int .i64 a2, .int .i64 a3, .int .i64 a4, .int .i64 a5, .int .i64 a6, .int .i64 a7, .int .i64 a8, .int .i64 a9] 109 (0, 0)) from hA.out)
   obtain ⟨x0, x1', x2, x3, x4, x5, x6, x7, x8, x9⟩ := cells10 HA.out
   obtain ⟨f0, f1, f2, f3, f4, f5, f6, f7, f8, f9⟩ := frz10 HA.out
   have HMR := hid hMr
   clear hfin hM hR hA hMr
   go_wp2
   have hF := set10 HA.out (v0 := .int .i64 a0) (v1 := .int .i64 a1) (v2 := .int .i64 a2) (v3 := .int .i64 a3) (v4 := .int .i64 a4) (v5 := .int .i64 a5) (v6 := .int .i64 a6) (v7 := .int .i64 a7) (v8 := .int .i64 a8) (v9 := .int .i64 a9)
   obtain ⟨d0, d1, d2, d3, d4, d5, d6, d7, d8, d9⟩ := cells10 hF
   refine bodyPost_ret (v := .agg #[.int .i64 a0, .int .i64 a1, .int .i64 a2, .int .i64 a3, .int .i64 a4, .int .i64 a5, .int .i64 a6, .int .i64 a7, .int .i64 a8, .int .i64 a9]) (by simp [results, Try.results68, go_sem, d0, d1, d2, d3, d4, d5, d6, d7, d8, d9]) rfl ⟨by rw [← HF.out]; rfl, ⟨g', hL, MapIs.set10 HMR.out hmA⟩, Mo.set10 hB (by simp)⟩

end Go.Proofs.Ytgimcephbeajlaa
