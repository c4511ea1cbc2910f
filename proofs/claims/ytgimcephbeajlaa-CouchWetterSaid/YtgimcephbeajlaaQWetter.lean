import Derived.Test.YtgimcephbeajlaaQWetterA
import Derived.Deep.DeepCutAuto
set_option linter.unusedSimpArgs false
set_option linter.unusedVariables false
namespace Go.Proofs.Ytgimcephbeajlaa
open Go.RowKit Go.Shelf

set_option maxRecDepth 100000 in
set_option maxHeartbeats 2000000 in
theorem couchWetter_no (f : M.Cf) (Aw At Ar : Option Addr) (nw cw nt ct nr cr : Nat) (hl0 : -9223372036854775808 ≤ f.last) (wn : Nat) (hwn : wn < 65536) (n : Nat) (hn : n < 65536) (hr0 : Nat) (hh : hr0 < 256) (mr : Nat) (hm : mr < 256) (w : World) (hs : M.small nw nt nr → CS w w.heap.size f Aw At Ar nw cw nt ct nr cr) (hno : M.rdy f nw nt nr = false) :
  Calls Try.prog 10 #[.agg #[.int .i64 f.last, .int .i64 f.size, .int .i64 f.cool, .int .i64 f.die, .int .i64 f.burn, .int .i64 f.st.lo, .int .i64 f.st.hi, .slice Aw nw cw, .slice At nt ct, .slice Ar nr cr], .int .u16 (wn : Int), .int .u16 (n : Int), .int .u8 (hr0 : Int), .int .u8 (mr : Int)] w fun e w' => e = .returned (.bool true) ∧ Ev w w' := by
 have HRD := hid (fun W (hE : Ev w W) => by have := ready_c f Aw At Ar nw cw nt ct nr cr hl0 W (fun h => (hs h).ev hE); rw [hno] at this; exact this)
 clear hs hno
 go_enter Try.func10, Try.ntmps10
 go_wp2_with (first | (go_at_call 50; with_reducible refine (HRD.out _ (Ev.alloc (Ev.refl _) _)).mono ?_; rintro e w1 ⟨rfl, hb1⟩; have hG : Ev w w1 := (Ev.alloc (Ev.refl _) _).trans hb1; have Q0 := hid (hb1.heap (alloc1 w (.cells #[.int .i64 f.last, .int .i64 f.size, .int .i64 f.cool, .int .i64 f.die, .int .i64 f.burn, .int .i64 f.st.lo, .int .i64 f.st.hi, .slice Aw nw cw, .slice At nt ct, .slice Ar nr cr] 28)).1); obtain ⟨y0, y1, y2, y3, y4, y5, y6, y7, y8, y9⟩ := cells10 Q0.out) | (go_at_call 19; with_reducible refine (awake_c _).mono ?_; rintro e w99 ⟨rfl, hb99⟩) | (with_reducible refine ⟨trivial, ?_⟩))
 go_ret
 exact ⟨rfl, hG.trans hb99⟩

set_option maxRecDepth 100000 in
set_option maxHeartbeats 16000000 in
theorem couchWetter_yes (f : M.Cf) (Aw At Ar : Option Addr) (nw cw nt ct nr cr : Nat) (hl0 : -9223372036854775808 ≤ f.last) (wn : Nat) (hwn : wn < 65536) (n : Nat) (hn : n < 65536) (hr0 : Nat) (hh : hr0 < 256) (mr : Nat) (hm : mr < 256) (w : World) (HCS : Hid (CS w w.heap.size f Aw At Ar nw cw nt ct nr cr)) (hr : M.rdy f nw nt nr = true) (hsm : M.small nw nt nr) (h0 : M.check f = 0) :
  Calls Try.prog 10 #[.agg #[.int .i64 f.last, .int .i64 f.size, .int .i64 f.cool, .int .i64 f.die, .int .i64 f.burn, .int .i64 f.st.lo, .int .i64 f.st.hi, .slice Aw nw cw, .slice At nt ct, .slice Ar nr cr], .int .u16 (wn : Int), .int .u16 (n : Int), .int .u8 (hr0 : Int), .int .u8 (mr : Int)] w fun e w' => e = .returned (.bool true) ∧ Ev w w' := by
 obtain ⟨s0, s1, s2⟩ := hsm
 have HRD := hid (fun W (hE : Ev w W) => by have := ready_c f Aw At Ar nw cw nt ct nr cr hl0 W (fun _ => HCS.out.ev hE); rw [hr] at this; exact this)
 obtain ⟨hl9, _, hv, _⟩ := M.check0 h0
 have hlast := (M.valid_parts hv).2.2.2.2.2.1
 have hwl := HCS.out.w_.len
 have hl00 := (M.valid_parts hv).2.2.2.2.1
 have hnl : (nw : Int) = f.last + 1 := by omega
 have hnw0 : 0 < nw := by omega
 have hnw10 : nw ≤ 10 := by omega
 obtain ⟨kk, hkk⟩ : ∃ kk, hr0 % nw = kk := ⟨_, rfl⟩
 have hkl : kk < nw := by rw [← hkk]; exact Nat.mod_lt _ hnw0
 have hklI : (kk : Int) < (nw : Int) := by omega
 have hk0I : (0 : Int) ≤ (kk : Int) := by omega
 have g1 : IntKind.i64.wrap (f.last + 1) = f.last + 1 := IntWalk.i64_in _ (by omega)
 have g2 : IntKind.i64.wrap (hr0 : Int) = (hr0 : Int) := IntWalk.i64_in _ (by omega)
 have g0 : ¬ (f.last + 1 = 0) := by omega
 have m1 : (hr0 : Int) % (f.last + 1) = (kk : Int) := by rw [← hnl, ← hkk]; exact (Int.natCast_emod hr0 nw).symm
 have m2 : (hr0 : Int).tmod (f.last + 1) = (kk : Int) := by rw [Int.tmod_eq_emod_of_nonneg (by omega)]; exact m1
 have g3 : IntKind.i64.wrap (kk : Int) = (kk : Int) := IntWalk.i64_in _ (by omega)
 obtain ⟨hmn, hm2⟩ := M.many_nat h0
 have hmp := M.many_pos h0
 have hst := (M.valid_parts hv).2.2.2.1
 have HMN := hid (fun W (hE : Ev w W) => by have := Many_c f Aw At Ar nw cw nt ct nr cr hst (M.wet_bd hv) W (HCS.out.ev hE); rw [hmn] at this; exact this)
 generalize M.prodN (M.ranges f) = Pm at HMN hm2 hmp
 obtain ⟨qn, hqn⟩ : ∃ q, wn % Pm = q := ⟨_, rfl⟩
 have hql : qn < Pm := by rw [← hqn]; exact Nat.mod_lt _ (by omega)
 have p0 : ¬ ((Pm : Int) = 0) := by omega
 have p0' : ¬ (Pm = 0) := by omega
 have p1 : (wn : Int) % (Pm : Int) = (qn : Int) := by rw [← hqn]; exact (Int.natCast_emod wn Pm).symm
 have p2_ : (wn : Int).tmod (Pm : Int) = (qn : Int) := by rw [Int.tmod_eq_emod_of_nonneg (by omega)]; exact p1
 have p3_ : IntKind.i64.wrap (qn : Int) = (qn : Int) := IntWalk.i64_in _ (by omega)
 have p4_ : IntKind.i64.wrap (wn : Int) = (wn : Int) := IntWalk.i64_in _ (by omega)
 have HNT := hid (fun W (hE : Ev w W) => Nth_c f Aw At Ar nw cw nt ct nr cr hv hl9 qn (by omega) W (HCS.out.ev hE))
 have htls := M.nth_listed hv qn
 obtain ⟨t, ht⟩ : ∃ t, M.nth f qn = t := ⟨_, rfl⟩
 rw [ht] at HNT htls
 obtain ⟨hst0, htw, hwb⟩ := M.listed_bd hv htls
 have htl : t.wet.length = nw := by omega
 obtain ⟨y, hy⟩ : ∃ y, t.wet[kk]? = some y := ⟨t.wet[kk]'(by omega), List.getElem?_eq_getElem _⟩
 obtain ⟨rk, hrk⟩ : ∃ r, f.wet[kk]? = some r := ⟨f.wet[kk]'(by omega), List.getElem?_eq_getElem _⟩
 have hyr : M.holds rk y = true := by
  have h1 := htls
  unfold M.listed at h1
  simp only [Bool.and_eq_true] at h1
  exact ((M.inAll_at _ _).1 h1.2.2).2 kk y rk hy hrk
 have hsr : M.holds f.st t.st = true := by
  have h1 := htls
  unfold M.listed at h1
  simp only [Bool.and_eq_true] at h1
  exact h1.1
 have hyb := hwb y (List.mem_of_getElem? hy)
 have hrb := M.wet_bd hv rk (List.mem_of_getElem? hrk)
 unfold M.holds at hyr hsr
 simp only [Bool.and_eq_true, decide_eq_true_eq] at hyr hsr
 obtain ⟨mo, hmo⟩ : ∃ m, mr % 4 = m := ⟨_, rfl⟩
 have hmo4 : mo < 4 := by omega
 have q1 : (mr : Int) % 4 = (mo : Int) := by rw [← hmo]; exact (Int.natCast_emod mr 4).symm
 have q2 : (mr : Int).tmod 4 = (mo : Int) := by rw [Int.tmod_eq_emod_of_nonneg (by omega)]; exact q1
 have q3 : IntKind.i64.wrap (mr : Int) = (mr : Int) := IntWalk.i64_in _ (by omega)
 have q4 : IntKind.i64.wrap (mo : Int) = (mo : Int) := IntWalk.i64_in _ (by omega)
 have q5 : IntKind.i64.wrap (y + (mo : Int)) = y + (mo : Int) := IntWalk.i64_in _ (by omega)
 have q6 : IntKind.i64.wrap (t.st + (mo : Int)) = t.st + (mo : Int) := IntWalk.i64_in _ (by omega)
 obtain ⟨yn, hyn⟩ : ∃ v, min rk.hi (y + (mo : Int)) = v := ⟨_, rfl⟩
 obtain ⟨sn, hsn⟩ : ∃ v, min f.st.hi (t.st + (mo : Int)) = v := ⟨_, rfl⟩
 have huls : M.listed f ⟨t.st, t.wet.set kk yn⟩ = true := M.set_listed htls hrk (by unfold M.holds; simp; omega)
 have hwls : M.listed f ⟨sn, t.wet⟩ = true := M.start_listed htls (by unfold M.holds; simp; omega)
 have hpl := M.trn_ok hv n
 have hor : n ||| 2 ^ kk < 65536 := Nat.or_lt_two_pow (n := 16) (by omega) (Nat.pow_lt_pow_right (by omega) (by omega))
 have hpl2 := M.trn_ok hv (n ||| 2 ^ kk)
 have HTU := hid (fun W => turned_c f Aw At Ar nw cw nt ct nr cr hv hl9 n hn W)
 have HT2 := hid (fun W => turned_c f Aw At Ar nw cw nt ct nr cr hv hl9 (n ||| 2 ^ kk) hor W)
 have hpnl := M.trn_len f n
 have hpnl2 := M.trn_len f (n ||| 2 ^ kk)
 obtain ⟨hto1, hto2⟩ := M.trn_or (f := f) (n := n) (k := kk) (by omega) (by omega)
 obtain ⟨plan, hplan⟩ : ∃ p, M.trn f n = p := ⟨_, rfl⟩
 obtain ⟨pn, hpn⟩ : ∃ p, plan.length = p := ⟨_, rfl⟩
 obtain ⟨plan2, hplan2⟩ : ∃ p, M.trn f (n ||| 2 ^ kk) = p := ⟨_, rfl⟩
 obtain ⟨pn2, hpn2⟩ : ∃ p, plan2.length = p := ⟨_, rfl⟩
 rw [hplan, hpn] at HTU
 rw [hplan2, hpn2] at HT2
 rw [hplan] at hpl hpnl hto2
 rw [hplan2] at hpl2 hpnl2 hto1 hto2
 rw [hpn] at hpnl
 rw [hpn2] at hpnl2
 have hwt : ∀ j : Nat, t.wet.getD j 0 ≤ (t.wet.set kk yn).getD j 0 := fun j => by
  rw [M.getD_set]
  split
  ·
   rename_i hj
   rw [← hj.1, List.getD_eq_getElem?_getD, hy]
   show y ≤ yn
   omega
  ·
   exact Int.le_refl _
 have hws : ∀ j : Nat, j < kk → t.wet.getD j 0 = (t.wet.set kk yn).getD j 0 := fun j hj => by
  rw [M.getD_set, if_neg (by omega)]
 have HEND := hid (fun (j : Nat) (hj : j < nw) => show M.heatN f t plan (j + 1) ≤ M.heatN f ⟨t.st, t.wet.set kk yn⟩ plan (j + 1) ∧ M.heatN f t plan (j + 1) ≤ M.heatN f ⟨sn, t.wet⟩ plan (j + 1) ∧ M.heatN f t plan2 (j + 1) ≤ M.heatN f t plan (j + 1) ∧ (j < kk → M.heatN f ⟨t.st, t.wet.set kk yn⟩ plan (j + 1) = M.heatN f t plan (j + 1) ∧ M.heatN f t plan2 (j + 1) = M.heatN f t plan (j + 1)) from by
  have h1 := M.heat_more hv htls kk hto2 hto1 (j + 1) (by omega)
  refine ⟨M.heat_wet hv htls huls (Int.le_refl _) hwt plan (j + 1) (by omega), M.heat_wet hv htls hwls (show t.st ≤ sn by omega) (fun _ => Int.le_refl _) plan (j + 1) (by omega), h1.1, fun hjk => ⟨(M.heat_same (f := f) (t := t) (u := ⟨t.st, t.wet.set kk yn⟩) rfl kk hws plan (j + 1) (by omega)).symm, h1.2 (by omega)⟩⟩)
 have HXN := hid (fun (tr : M.Tr) (pl : List Int) (hls : M.listed f tr = true) (i : Nat) (x : Int) (hi : i < nw) (hx : ((M.heats f tr pl).take nw)[i]? = some x) => show M.heatN f tr pl (i + 1) = x by
  rw [List.getElem?_take_of_lt hi, M.heats_at pl (by have := (M.listed_bd hv hls).2.1; omega)] at hx
  exact Option.some.inj hx)
 have HXA := hid (fun i x hi hx => HXN.out t plan htls i x hi hx)
 have HXB := hid (fun i x hi hx => HXN.out ⟨t.st, t.wet.set kk yn⟩ plan huls i x hi hx)
 have HXC := hid (fun i x hi hx => HXN.out ⟨sn, t.wet⟩ plan hwls i x hi hx)
 have HXD := hid (fun i x hi hx => HXN.out t plan2 htls i x hi hx)
 have HPA := hid (fun (Bw : Option Addr) (dw : Nat) (Bt : Option Addr) (dt : Nat) (Br : Option Addr) (dr : Nat) (T1 : Option Addr) (u1 : Nat) (L : Option Addr) (d : Nat) W (h : CS W W.heap.size f Bw Bt Br nw dw nt dt nr dr) (h1 : Sl ics 1 W W.heap.size T1 nw u1 t.wet) (h3 : Sl ics 1 W W.heap.size L pn d plan) => Play_ok f Bw Bt Br nw dw nt dt nr dr T1 nw u1 t L pn d plan hl0 W h h1 h3 h0 htls hpl)
 have HPB := hid (fun (Bw : Option Addr) (dw : Nat) (Bt : Option Addr) (dt : Nat) (Br : Option Addr) (dr : Nat) (T1 : Option Addr) (u1 : Nat) (L : Option Addr) (d : Nat) W (h : CS W W.heap.size f Bw Bt Br nw dw nt dt nr dr) (h1 : Sl ics 1 W W.heap.size T1 nw u1 (t.wet.set kk yn)) (h3 : Sl ics 1 W W.heap.size L pn d plan) => Play_ok f Bw Bt Br nw dw nt dt nr dr T1 nw u1 ⟨t.st, t.wet.set kk yn⟩ L pn d plan hl0 W h h1 h3 h0 huls hpl)
 have HPC := hid (fun (Bw : Option Addr) (dw : Nat) (Bt : Option Addr) (dt : Nat) (Br : Option Addr) (dr : Nat) (T1 : Option Addr) (u1 : Nat) (L : Option Addr) (d : Nat) W (h : CS W W.heap.size f Bw Bt Br nw dw nt dt nr dr) (h1 : Sl ics 1 W W.heap.size T1 nw u1 t.wet) (h3 : Sl ics 1 W W.heap.size L pn d plan) => Play_ok f Bw Bt Br nw dw nt dt nr dr T1 nw u1 ⟨sn, t.wet⟩ L pn d plan hl0 W h h1 h3 h0 hwls hpl)
 have HPD := hid (fun (Bw : Option Addr) (dw : Nat) (Bt : Option Addr) (dt : Nat) (Br : Option Addr) (dr : Nat) (T1 : Option Addr) (u1 : Nat) (L : Option Addr) (d : Nat) W (h : CS W W.heap.size f Bw Bt Br nw dw nt dt nr dr) (h1 : Sl ics 1 W W.heap.size T1 nw u1 t.wet) (h3 : Sl ics 1 W W.heap.size L pn2 d plan2) => Play_ok f Bw Bt Br nw dw nt dt nr dr T1 nw u1 t L pn2 d plan2 hl0 W h h1 h3 h0 htls hpl2)
 have HYR := hid (show (t.wet[kk]? = some y ∧ f.wet[kk]? = some rk) from ⟨hy, hrk⟩)
 have HTLN := hid htl
 have HYN := hid hyn
 have HSN := hid hsn
 have su : IntKind.u16.wrap ((2 : Int) ^ min (IntKind.u64.wrap (kk : Int)).toNat 16) = (2 : Int) ^ kk ∧ Go.bits .or .u16 (n : Int) ((2 : Int) ^ kk) = ((n ||| 2 ^ kk : Nat) : Int) := by
  have hk10 : kk = 0 ∨ kk = 1 ∨ kk = 2 ∨ kk = 3 ∨ kk = 4 ∨ kk = 5 ∨ kk = 6 ∨ kk = 7 ∨ kk = 8 ∨ kk = 9 := by omega
  have hc : ((2 ^ kk : Nat) : Int) = (2 : Int) ^ kk := by simp
  refine ⟨by rcases hk10 with rfl | rfl | rfl | rfl | rfl | rfl | rfl | rfl | rfl | rfl <;> decide +kernel, ?_⟩
  rw [← hc]
  have h1 : Go.bits .or .u16 (n : Int) ((2 ^ kk : Nat) : Int) = IntKind.u16.wrap (((BitVec.ofInt 16 (n : Int) ||| BitVec.ofInt 16 ((2 ^ kk : Nat) : Int)).toNat : Nat) : Int) := rfl
  have hk16 : 2 ^ kk < 2 ^ 16 := Nat.pow_lt_pow_right (by omega) (by omega)
  have ea : (BitVec.ofInt 16 (n : Int)).toNat = n := by rw [BitVec.toNat_ofInt]; omega
  have eb : (BitVec.ofInt 16 ((2 ^ kk : Nat) : Int)).toNat = 2 ^ kk := by rw [BitVec.toNat_ofInt]; generalize 2 ^ kk = z at hk16 ⊢; omega
  rw [h1, BitVec.toNat_or, ea, eb]
  generalize n ||| 2 ^ kk = z at hor ⊢
  show (z : Int) % 65536 = (z : Int)
  omega
 obtain ⟨su1, su2⟩ := su
 generalize n ||| 2 ^ kk = n2 at HT2 su2
 have gn : IntKind.u16.wrap (n : Int) = (n : Int) := by show (n : Int) % 65536 = (n : Int); omega
 have c6_ : ((nw : Int) != f.last + 1) = false := by simp; omega
 have c7_ : ((nw : Int) == f.last + 1) = true := by simp; omega
 have HNL := hid hnl
 clear hr h0 hv hpl hpl2 hwl hlast hl9 hkk hqn htls hst0 htw hwb htl hy hrk hyr hsr hyb hrb hst hmo hyn hsn huls hwls hor hto1 hto2 hplan hplan2 hpn hpn2 hwt hws HXN ht hmn hnl
 go_enter Try.func10, Try.ntmps10
 go_upto_region 3 with (first | (go_at_call 50; with_reducible refine (HRD.out _ (Ev.alloc (Ev.refl _) _)).mono ?_; rintro e w1 ⟨rfl, hb1⟩; have hG : Ev w w1 := (Ev.alloc (Ev.refl _) _).trans hb1; have Q0 := hid (hb1.heap (alloc1 w (.cells #[.int .i64 f.last, .int .i64 f.size, .int .i64 f.cool, .int .i64 f.die, .int .i64 f.burn, .int .i64 f.st.lo, .int .i64 f.st.hi, .slice Aw nw cw, .slice At nt ct, .slice Ar nr cr] 28)).1); obtain ⟨y0, y1, y2, y3, y4, y5, y6, y7, y8, y9⟩ := cells10 Q0.out) | (with_reducible refine ⟨trivial, ?_⟩))
 have l0 := heap_lt Q0.out
 have HSE : Hid (∀ w', Ev w1 w' → (∀ o, w'.cell? ⟨w.heap.size, o, none⟩ = w1.cell? ⟨w.heap.size, o, none⟩)) := hid (fun w' h => fun o => h.cells.1 _ o l0)
 go_cut [11] (fun v W => ∃ (p : Nat) (Bw : Option Addr) (dw : Nat), v = .pointer (some ⟨p, 0, none⟩) ∧ w1.heap.size ≤ p ∧ Ev w1 W ∧ Hid (W.heap[p]? = some (.cells #[.int .i64 t.st, .slice Bw nw dw] 30 (0, 0))) ∧ Hid (W.ownsRow w1.heap.size 3 1 (.slice Bw nw dw) nw (t.wet.flatMap ics)))
 case first =>
  as_aux_lemma =>
   refine wp_region_held_drew (S := fun w' => (∀ o, w'.cell? ⟨w.heap.size, o, none⟩ = w1.cell? ⟨w.heap.size, o, none⟩)) (by kernel_rfl) (fun o => rfl) (fun hHeld => ?_)
   refine tkH 0 (some 30) ?_
   (try simp only [Act.put, sA, sB, sC])
   refine tkH 1 (some 31) ?_
   (try simp only [Act.put, sA, sB, sC])
   refine tkH 2 (some 32) ?_
   (try simp only [Act.put, sA, sB, sC])
   refine tkH 3 (some 33) ?_
   (try simp only [Act.put, sA, sB, sC])
   refine wpAnyH_ready (rs := [4, 7]) (by kernel_rfl) (by simp) ?_
   refine AllReadyH.cons rfl (fun K hK => ?_) (AllReadyH.cons rfl (fun K hK => ?_) (AllReadyH.nil))
   ·
    go_simp
    refine (HMN.out _ (hG.trans (Ev.drew (Ev.refl _)))).mono ?_
    rintro e z4 ⟨rfl, hb4⟩
    have hy4 : Ev w1 z4 := Ev.trans (Ev.drew (Ev.refl _)) hb4
    refine hK.out _ _ (HSE.out _ hy4) (fun hHeld => ?_)
    clear hK K
    (try simp only [Act.put, sA, sB, sC])
    refine tkH 5 (some 35) ?_
    (try simp only [Act.put, sA, sB, sC])
    refine wpAnyH_ready (rs := [6, 7]) (by kernel_rfl) (by simp) ?_
    refine AllReadyH.cons rfl (fun K hK => ?_) (AllReadyH.cons rfl (fun K hK => ?_) (AllReadyH.nil))
    ·
     go_simp
     refine (HNT.out _ (hG.trans hy4)).mono ?_
     rintro e z6 ⟨⟨Bw, dw, rfl, ho⟩, hb6⟩
     have hy6 : Ev w1 z6 := Ev.trans hy4 hb6
     refine hK.out _ _ (HSE.out _ hy6) (fun hHeld => ?_)
     clear hK K
     (try simp only [Act.put, sA, sB, sC])
     refine wpAnyH_one (i := 7) rfl (by kernel_rfl) (by rfl) (fun K hK => ?_)
     go_simp
     generalize hWA : World.alloc z6 _ = WA
     have hal := alloc1 z6 (.cells #[.int .i64 0, .slice none 0 0] 30)
     have hbA : Ev z6 WA := by rw [← hWA]; exact Ev.alloc (Ev.refl _) _
     have hqA := hal.1
     rw [hWA] at hqA
     have hxA : Ev w1 WA := hy6.trans hbA
     have hpA : w1.heap.size ≤ z6.heap.size := hy6.size
     clear hal hWA
     refine hK.out _ _ (HSE.out _ hxA) (fun hHeld => ?_)
     clear hK K
     (try simp only [Act.put, sA, sB, sC])
     refine wpAnyH_one (i := 8) rfl (by kernel_rfl) (by rfl) (fun K hK => ?_)
     have hq9 := hid hqA
     obtain ⟨u0, u1⟩ := cells2 hq9.out
     obtain ⟨v0, v1⟩ := frz2 hq9.out
     have hne : w.heap.size ≠ z6.heap.size := by have := hpA; have := l0; omega
     go_simp
     refine hK.out _ _ (fun o => (cell_set_ne hne).trans ((cell_set_ne hne).trans (HSE.out _ hxA o))) (fun hHeld => ?_)
     clear hK K
     (try simp only [Act.put, sA, sB, sC])
     refine wpAnyH_done (by kernel_rfl) ?_ _
     go_wp2_with fail
     go_meet
     exact ⟨z6.heap.size, Bw, dw, rfl, hpA, Ev.setCell (Ev.setCell hxA hpA _) hpA _, hid (set2' hq9.out), hid (own_set (own_set (own_base (ho.ev hbA) hy4.size) hq9.out (by decide)) (set_heap_same hq9.out) (by decide))⟩
    ·
     go_simp
     generalize hWA : World.alloc z4 _ = WA
     have hal := alloc1 z4 (.cells #[.int .i64 0, .slice none 0 0] 30)
     have hbA : Ev z4 WA := by rw [← hWA]; exact Ev.alloc (Ev.refl _) _
     have hqA := hal.1
     rw [hWA] at hqA
     have hxA : Ev w1 WA := hy4.trans hbA
     have hpA : w1.heap.size ≤ z4.heap.size := hy4.size
     clear hal hWA
     refine hK.out _ _ (HSE.out _ hxA) (fun hHeld => ?_)
     clear hK K
     (try simp only [Act.put, sA, sB, sC])
     refine wpAnyH_one (i := 6) rfl (by kernel_rfl) (by rfl) (fun K hK => ?_)
     go_simp
     refine (HNT.out _ (hG.trans hxA)).mono ?_
     rintro e z6 ⟨⟨Bw, dw, rfl, ho⟩, hb6⟩
     have hy6 : Ev w1 z6 := Ev.trans hxA hb6
     refine hK.out _ _ (HSE.out _ hy6) (fun hHeld => ?_)
     clear hK K
     (try simp only [Act.put, sA, sB, sC])
     refine wpAnyH_one (i := 8) rfl (by kernel_rfl) (by rfl) (fun K hK => ?_)
     have hq9 := hid (hb6.heap hqA)
     obtain ⟨u0, u1⟩ := cells2 hq9.out
     obtain ⟨v0, v1⟩ := frz2 hq9.out
     have hne : w.heap.size ≠ z4.heap.size := by have := hpA; have := l0; omega
     go_simp
     refine hK.out _ _ (fun o => (cell_set_ne hne).trans ((cell_set_ne hne).trans (HSE.out _ hy6 o))) (fun hHeld => ?_)
     clear hK K
     (try simp only [Act.put, sA, sB, sC])
     refine wpAnyH_done (by kernel_rfl) ?_ _
     go_wp2_with fail
     go_meet
     exact ⟨z4.heap.size, Bw, dw, rfl, hpA, Ev.setCell (Ev.setCell hy6 hpA _) hpA _, hid (set2' hq9.out), hid (own_set (own_set (own_base ho hxA.size) hq9.out (by decide)) (set_heap_same hq9.out) (by decide))⟩
   ·
    go_simp
    generalize hWA : World.drew (World.alloc w1 _) = WA
    have hal := alloc1 w1 (.cells #[.int .i64 0, .slice none 0 0] 30)
    have hbA : Ev w1 WA := by rw [← hWA]; exact Ev.drew (Ev.alloc (Ev.refl _) _)
    have hqA := (show Ev (World.alloc w1 (.cells #[.int .i64 0, .slice none 0 0] 30)) WA from by rw [← hWA]; exact Ev.drew (Ev.refl _)).heap hal.1
    have hxA : Ev w1 WA := hbA
    have hpA : w1.heap.size ≤ w1.heap.size := Nat.le_refl _
    clear hal hWA
    refine hK.out _ _ (HSE.out _ hxA) (fun hHeld => ?_)
    clear hK K
    (try simp only [Act.put, sA, sB, sC])
    refine wpAnyH_one (i := 4) rfl (by kernel_rfl) (by rfl) (fun K hK => ?_)
    go_simp
    refine (HMN.out _ (hG.trans hxA)).mono ?_
    rintro e z4 ⟨rfl, hb4⟩
    have hy4 : Ev w1 z4 := Ev.trans hxA hb4
    refine hK.out _ _ (HSE.out _ hy4) (fun hHeld => ?_)
    clear hK K
    (try simp only [Act.put, sA, sB, sC])
    refine tkH 5 (some 35) ?_
    (try simp only [Act.put, sA, sB, sC])
    refine wpAnyH_one (i := 6) rfl (by kernel_rfl) (by rfl) (fun K hK => ?_)
    go_simp
    refine (HNT.out _ (hG.trans hy4)).mono ?_
    rintro e z6 ⟨⟨Bw, dw, rfl, ho⟩, hb6⟩
    have hy6 : Ev w1 z6 := Ev.trans hy4 hb6
    refine hK.out _ _ (HSE.out _ hy6) (fun hHeld => ?_)
    clear hK K
    (try simp only [Act.put, sA, sB, sC])
    refine wpAnyH_one (i := 8) rfl (by kernel_rfl) (by rfl) (fun K hK => ?_)
    have hq9 := hid (hb6.heap (hb4.heap hqA))
    obtain ⟨u0, u1⟩ := cells2 hq9.out
    obtain ⟨v0, v1⟩ := frz2 hq9.out
    have hne : w.heap.size ≠ w1.heap.size := by have := hpA; have := l0; omega
    go_simp
    refine hK.out _ _ (fun o => (cell_set_ne hne).trans ((cell_set_ne hne).trans (HSE.out _ hy6 o))) (fun hHeld => ?_)
    clear hK K
    (try simp only [Act.put, sA, sB, sC])
    refine wpAnyH_done (by kernel_rfl) ?_ _
    go_wp2_with fail
    go_meet
    exact ⟨w1.heap.size, Bw, dw, rfl, hpA, Ev.setCell (Ev.setCell hy6 hpA _) hpA _, hid (set2' hq9.out), hid (own_set (own_set (own_base ho hy4.size) hq9.out (by decide)) (set_heap_same hq9.out) (by decide))⟩
 case rest =>
  clear y0 y1 y2 y3 y4 y5 y6 y7 y8 y9
  clear HSE
  obtain ⟨p, Bw, dw, rfl, hpw, hEw, HQT, HOW⟩ := hcut
  obtain ⟨x2, hx2⟩ : ∃ x, x = wc := ⟨_, rfl⟩
  subst hx2
  have HE2 := hid (hG.trans hEw)
  have HV2 := hid hEw
  have HT2_ := hid (Ev.refl x2)
  clear hEw
  have HSW := hid (sl_own (enc := ics) (by decide) (ics_len _) (by omega) HOW.out)
  obtain ⟨y0, y1, y2, y3, y4, y5, y6, y7, y8, y9⟩ := cells10 (HV2.out.heap Q0.out)
  go_upto_region 5 with fail
  obtain ⟨c0, c1⟩ := cells2 HQT.out
  have l1 := heap_lt HQT.out
  have l0 := heap_lt (HV2.out.heap Q0.out)
  have HSE : Hid (∀ w', Ev x2 w' → (∀ o, w'.cell? ⟨p, o, none⟩ = x2.cell? ⟨p, o, none⟩)) := hid (fun w' h => fun o => h.cells.1 _ o l1)
  go_cut [13] (fun v W => ∃ (p2 : Nat) (Bu : Option Addr) (du : Nat), v = .pointer (some ⟨p2, 0, none⟩) ∧ x2.heap.size ≤ p2 ∧ Ev x2 W ∧ Hid (W.heap[p2]? = some (.cells #[.int .i64 t.st, .slice Bu nw du] 30 (0, 0))) ∧ Hid (W.ownsRow x2.heap.size 3 1 (.slice Bu nw du) nw (t.wet.flatMap ics)))
  case first =>
   as_aux_lemma =>
    refine wp_region_held_drew (S := fun w' => (∀ o, w'.cell? ⟨p, o, none⟩ = x2.cell? ⟨p, o, none⟩)) (by kernel_rfl) (fun o => rfl) (fun hHeld => ?_)
    refine tkH 0 (some 43) ?_
    (try simp only [Act.put, sA, sB, sC])
    refine tkH 1 (some 44) ?_
    (try simp only [Act.put, sA, sB, sC])
    refine tkH 2 (some 45) ?_
    (try simp only [Act.put, sA, sB, sC])
    refine tkH 3 (some 46) ?_
    (try simp only [Act.put, sA, sB, sC])
    refine wpAnyH_ready (rs := [4, 6]) (by kernel_rfl) (by simp) ?_
    refine AllReadyH.cons rfl (fun K hK => ?_) (AllReadyH.cons rfl (fun K hK => ?_) (AllReadyH.nil))
    ·
     go_simp
     refine (list_c Bw nw dw t.wet (by omega) _ (HSW.out.ev (Ev.drew (Ev.refl _)))).mono ?_
     rintro e z4 ⟨⟨Bu, du, rfl, ho⟩, hb4⟩
     have hy4 : Ev x2 z4 := Ev.trans (Ev.drew (Ev.refl _)) hb4
     refine hK.out _ _ (HSE.out _ hy4) (fun hHeld => ?_)
     clear hK K
     (try simp only [Act.put, sA, sB, sC])
     refine tkH 5 (some 48) ?_
     (try simp only [Act.put, sA, sB, sC])
     refine wpAnyH_one (i := 6) rfl (by kernel_rfl) (by rfl) (fun K hK => ?_)
     go_simp
     generalize hWA : World.alloc z4 _ = WA
     have hal := alloc1 z4 (.cells #[.int .i64 0, .slice none 0 0] 30)
     have hbA : Ev z4 WA := by rw [← hWA]; exact Ev.alloc (Ev.refl _) _
     have hqA := hal.1
     rw [hWA] at hqA
     have hxA : Ev x2 WA := hy4.trans hbA
     have hpA : x2.heap.size ≤ z4.heap.size := hy4.size
     clear hal hWA
     refine hK.out _ _ (HSE.out _ hxA) (fun hHeld => ?_)
     clear hK K
     (try simp only [Act.put, sA, sB, sC])
     refine wpAnyH_one (i := 7) rfl (by kernel_rfl) (by rfl) (fun K hK => ?_)
     have hq9 := hid hqA
     obtain ⟨u0, u1⟩ := cells2 hq9.out
     obtain ⟨v0, v1⟩ := frz2 hq9.out
     have hne : p ≠ z4.heap.size := by have := hpA; have := l1; omega
     go_simp
     refine hK.out _ _ (fun o => (cell_set_ne hne).trans ((cell_set_ne hne).trans (HSE.out _ hxA o))) (fun hHeld => ?_)
     clear hK K
     (try simp only [Act.put, sA, sB, sC])
     refine wpAnyH_done (by kernel_rfl) ?_ _
     go_wp2_with fail
     go_meet
     exact ⟨z4.heap.size, Bu, du, rfl, hpA, Ev.setCell (Ev.setCell hxA hpA _) hpA _, hid (set2' hq9.out), hid (own_set (own_set (own_base (ho.ev hbA) (Ev.drew (Ev.refl _)).size) hq9.out (by decide)) (set_heap_same hq9.out) (by decide))⟩
    ·
     go_simp
     generalize hWA : World.drew (World.alloc x2 _) = WA
     have hal := alloc1 x2 (.cells #[.int .i64 0, .slice none 0 0] 30)
     have hbA : Ev x2 WA := by rw [← hWA]; exact Ev.drew (Ev.alloc (Ev.refl _) _)
     have hqA := (show Ev (World.alloc x2 (.cells #[.int .i64 0, .slice none 0 0] 30)) WA from by rw [← hWA]; exact Ev.drew (Ev.refl _)).heap hal.1
     have hxA : Ev x2 WA := hbA
     have hpA : x2.heap.size ≤ x2.heap.size := Nat.le_refl _
     clear hal hWA
     refine hK.out _ _ (HSE.out _ hxA) (fun hHeld => ?_)
     clear hK K
     (try simp only [Act.put, sA, sB, sC])
     refine wpAnyH_one (i := 4) rfl (by kernel_rfl) (by rfl) (fun K hK => ?_)
     go_simp
     refine (list_c Bw nw dw t.wet (by omega) _ (HSW.out.ev hxA)).mono ?_
     rintro e z4 ⟨⟨Bu, du, rfl, ho⟩, hb4⟩
     have hy4 : Ev x2 z4 := Ev.trans hxA hb4
     refine hK.out _ _ (HSE.out _ hy4) (fun hHeld => ?_)
     clear hK K
     (try simp only [Act.put, sA, sB, sC])
     refine tkH 5 (some 48) ?_
     (try simp only [Act.put, sA, sB, sC])
     refine wpAnyH_one (i := 7) rfl (by kernel_rfl) (by rfl) (fun K hK => ?_)
     have hq9 := hid (hb4.heap hqA)
     obtain ⟨u0, u1⟩ := cells2 hq9.out
     obtain ⟨v0, v1⟩ := frz2 hq9.out
     have hne : p ≠ x2.heap.size := by have := hpA; have := l1; omega
     go_simp
     refine hK.out _ _ (fun o => (cell_set_ne hne).trans ((cell_set_ne hne).trans (HSE.out _ hy4 o))) (fun hHeld => ?_)
     clear hK K
     (try simp only [Act.put, sA, sB, sC])
     refine wpAnyH_done (by kernel_rfl) ?_ _
     go_wp2_with fail
     go_meet
     exact ⟨x2.heap.size, Bu, du, rfl, hpA, Ev.setCell (Ev.setCell hy4 hpA _) hpA _, hid (set2' hq9.out), hid (own_set (own_set (own_base ho hxA.size) hq9.out (by decide)) (set_heap_same hq9.out) (by decide))⟩
  case rest =>
   clear y0 y1 y2 y3 y4 y5 y6 y7 y8 y9 c0 c1
   clear HSE
   obtain ⟨p2, Bu, du, rfl, hp2, hEu, HQU, HOU⟩ := hcut
   obtain ⟨x3, hx3⟩ : ∃ x, x = wc := ⟨_, rfl⟩
   subst hx3
   have HE3 := hid (HE2.out.trans hEu)
   have HV3 := hid (HV2.out.trans hEu)
   have HT3 := hid hEu
   clear hEu
   obtain ⟨g, rfl, hgb, hgl, hgc, hgn, hgf, hgx⟩ := own_some HOU.out hnw0
   have hfg := hgf kk hkl
   have hcg := hgx kk y HYR.out.1
   have hgu : g ≠ p2 := fun e => own_neB HOU.out HQU.out (by decide) (by rw [e]; rfl)
   have hlx2 : x2.heap.size ≤ x3.heap.size := HT3.out.size
   obtain ⟨bt, ot, y', hAt, hbt, hyt, _, e0⟩ := (HSW.out.ev HT3.out).int (Below.refl _ _) hkl
   obtain rfl : y = y' := by have := HYR.out.1; rw [hyt] at this; exact (Option.some.inj this).symm
   have hbt2 : bt < x2.heap.size := by
    obtain ⟨b3, o3, _, h3, h4, _⟩ := HSW.out.int (Below.refl _ _) hkl
    rw [hAt] at h3
    cases h3
    exact h4
   obtain ⟨br, or, r', hAr, hbr, hrt, _, hcr⟩ := HCS.out.w_.at_ HE3.out hkl
   obtain rfl : rk = r' := by have := HYR.out.2; rw [hrt] at this; exact (Option.some.inj this).symm
   have e1 := hcr 0 _ rfl
   have e2 := hcr 1 _ rfl
   simp only [Nat.add_zero] at e1
   have hcap1 := HSW.out.cap
   have hcap2 := HCS.out.w_.cap
   have hwsz : w.heap.size ≤ x2.heap.size := HE2.out.size
   clear hgf hgx hyt hrt hcr
   obtain ⟨y0, y1, y2, y3, y4, y5, y6, y7, y8, y9⟩ := cells10 (HV3.out.heap Q0.out)
   obtain ⟨c0, c1⟩ := cells2 (HT3.out.heap HQT.out)
   obtain ⟨d0, d1⟩ := cells2 HQU.out
   have l0 := heap_lt (HV3.out.heap Q0.out)
   have l1 := heap_lt (HT3.out.heap HQT.out)
   have l2 := heap_lt HQU.out
   have l3 : bt < x3.heap.size := by omega
   have l4 : br < x3.heap.size := by omega
   have hgB : ∀ b, b < x2.heap.size → b ≠ g := fun b hb e => by omega
   have hw0 : w.heap.size ≠ g := by have := heap_lt (HV2.out.heap Q0.out); omega
   have hp0 : p ≠ g := by have := heap_lt HQT.out; omega
   have hbt0 : bt ≠ g := by omega
   have hbr0 : br ≠ g := by omega
   have HSE : Hid (∀ w', Ev x3 w' → (∀ o, w'.cell? ⟨w.heap.size, o, none⟩ = x3.cell? ⟨w.heap.size, o, none⟩) ∧ (∀ o, w'.cell? ⟨p, o, none⟩ = x3.cell? ⟨p, o, none⟩) ∧ (∀ o, w'.cell? ⟨p2, o, none⟩ = x3.cell? ⟨p2, o, none⟩) ∧ (∀ o, w'.cell? ⟨bt, o, none⟩ = x3.cell? ⟨bt, o, none⟩) ∧ (∀ o, w'.cell? ⟨br, o, none⟩ = x3.cell? ⟨br, o, none⟩)) := hid (fun w' h => ⟨fun o => h.cells.1 _ o l0, fun o => h.cells.1 _ o l1, fun o => h.cells.1 _ o l2, fun o => h.cells.1 _ o l3, fun o => h.cells.1 _ o l4⟩)
   go_upto_region 6 with fail
   go_cut [] (fun W => Ev x2 W ∧ Hid (W.heap[p2]? = some (.cells #[.int .i64 t.st, .slice (some ⟨g, 0, none⟩) nw du] 30 (0, 0))) ∧ Hid (W.ownsRow x2.heap.size 3 1 (.slice (some ⟨g, 0, none⟩) nw du) nw ((t.wet.set kk yn).flatMap ics)))
   case first =>
    subst hAt hAr
    by_cases cm : rk.hi ≤ y + (mo : Int)
    ·
     have hz := HYN.out
     have cm1 : min rk.hi (y + (mo : Int)) = rk.hi := by omega
     rw [cm1] at hz
     have cm2 : ¬ (y + (mo : Int) < rk.hi) := by omega
     subst hz
     as_aux_lemma =>
     refine wp_region_held_drew (S := fun w' => (∀ o, w'.cell? ⟨w.heap.size, o, none⟩ = x3.cell? ⟨w.heap.size, o, none⟩) ∧ (∀ o, w'.cell? ⟨p, o, none⟩ = x3.cell? ⟨p, o, none⟩) ∧ (∀ o, w'.cell? ⟨p2, o, none⟩ = x3.cell? ⟨p2, o, none⟩) ∧ (∀ o, w'.cell? ⟨bt, o, none⟩ = x3.cell? ⟨bt, o, none⟩) ∧ (∀ o, w'.cell? ⟨br, o, none⟩ = x3.cell? ⟨br, o, none⟩)) (by kernel_rfl) (⟨fun o => rfl, fun o => rfl, fun o => rfl, fun o => rfl, fun o => rfl⟩) (fun hHeld => ?_)
     refine tkH 0 (some 49) ?_
     (try simp only [Act.put, sA, sB, sC])
     refine tkH 1 (some 50) ?_
     (try simp only [Act.put, sA, sB, sC])
     refine tkH 2 (some 51) ?_
     (try simp only [Act.put, sA, sB, sC])
     refine tkH 3 (some 52) ?_
     (try simp only [Act.put, sA, sB, sC])
     refine tkH 4 (some 53) ?_
     (try simp only [Act.put, sA, sB, sC])
     refine tkH 5 (some 54) ?_
     (try simp only [Act.put, sA, sB, sC])
     refine tkH 6 (some 55) ?_
     (try simp only [Act.put, sA, sB, sC])
     refine tkH 7 (some 56) ?_
     (try simp only [Act.put, sA, sB, sC])
     refine tkH 8 (some 57) ?_
     (try simp only [Act.put, sA, sB, sC])
     refine tkH 9 (some 58) ?_
     (try simp only [Act.put, sA, sB, sC])
     refine tkH 10 (some 59) ?_
     (try simp only [Act.put, sA, sB, sC])
     refine tkH 11 (some 60) ?_
     (try simp only [Act.put, sA, sB, sC])
     refine tkH 12 (some 61) ?_
     (try simp only [Act.put, sA, sB, sC])
     refine tkH 13 (some 62) ?_
     (try simp only [Act.put, sA, sB, sC])
     refine tkH 14 (some 63) ?_
     (try simp only [Act.put, sA, sB, sC])
     refine tkH 15 (some 64) ?_
     (try simp only [Act.put, sA, sB, sC])
     refine tkH 16 (some 65) ?_
     (try simp only [Act.put, sA, sB, sC])
     refine tkH 17 (some 66) ?_
     (try simp only [Act.put, sA, sB, sC])
     refine tkH 18 (some 67) ?_
     (try simp only [Act.put, sA, sB, sC])
     refine tkH 19 (some 68) ?_
     (try simp only [Act.put, sA, sB, sC])
     refine wpAnyH_one (i := 20) rfl (by kernel_rfl) (by rfl) (fun K hK => ?_)
     go_simp
     generalize hX6 : World.drew (World.setCell x3 _ _) = X6
     have hS6 : ∀ b o, b ≠ g → X6.cell? ⟨b, o, none⟩ = x3.cell? ⟨b, o, none⟩ := fun b o h => by rw [← hX6]; exact cell_set_ne h
     have hE6 : Ev x2 X6 := by rw [← hX6]; exact Ev.drew (Ev.setCell (p := ⟨g, kk, none⟩) HT3.out (show x2.heap.size ≤ g by omega) _)
     have hQ6 := hid (show X6.heap[p2]? = some (.cells #[.int .i64 t.st, .slice (some ⟨g, 0, none⟩) nw du] 30 (0, 0)) from by rw [← hX6]; exact set_heap HQU.out (Ne.symm hgu))
     have hO6 := hid (show X6.ownsRow x2.heap.size 3 1 (.slice (some ⟨g, 0, none⟩) nw du) nw ((t.wet.set kk (rk.hi)).flatMap ics) from by rw [← hX6]; exact (own_putI HOU.out kk _).ev (Ev.drew (Ev.refl _)))
     clear hX6
     refine hK.out _ _ (⟨fun o => hS6 _ o hw0, fun o => hS6 _ o hp0, fun o => hS6 _ o (Ne.symm hgu), fun o => hS6 _ o hbt0, fun o => hS6 _ o hbr0⟩) (fun hHeld => ?_)
     clear hK K
     (try simp only [Act.put, sA, sB, sC])
     refine wpAnyH_done (by kernel_rfl) ?_ _
     go_wp2_with fail
     go_meet
     exact ⟨hE6, hQ6, hO6⟩
    ·
     have hz := HYN.out
     have cm1 : min rk.hi (y + (mo : Int)) = y + (mo : Int) := by omega
     rw [cm1] at hz
     have cm2 : y + (mo : Int) < rk.hi := by omega
     subst hz
     as_aux_lemma =>
     refine wp_region_held_drew (S := fun w' => (∀ o, w'.cell? ⟨w.heap.size, o, none⟩ = x3.cell? ⟨w.heap.size, o, none⟩) ∧ (∀ o, w'.cell? ⟨p, o, none⟩ = x3.cell? ⟨p, o, none⟩) ∧ (∀ o, w'.cell? ⟨p2, o, none⟩ = x3.cell? ⟨p2, o, none⟩) ∧ (∀ o, w'.cell? ⟨bt, o, none⟩ = x3.cell? ⟨bt, o, none⟩) ∧ (∀ o, w'.cell? ⟨br, o, none⟩ = x3.cell? ⟨br, o, none⟩)) (by kernel_rfl) (⟨fun o => rfl, fun o => rfl, fun o => rfl, fun o => rfl, fun o => rfl⟩) (fun hHeld => ?_)
     refine tkH 0 (some 49) ?_
     (try simp only [Act.put, sA, sB, sC])
     refine tkH 1 (some 50) ?_
     (try simp only [Act.put, sA, sB, sC])
     refine tkH 2 (some 51) ?_
     (try simp only [Act.put, sA, sB, sC])
     refine tkH 3 (some 52) ?_
     (try simp only [Act.put, sA, sB, sC])
     refine tkH 4 (some 53) ?_
     (try simp only [Act.put, sA, sB, sC])
     refine tkH 5 (some 54) ?_
     (try simp only [Act.put, sA, sB, sC])
     refine tkH 6 (some 55) ?_
     (try simp only [Act.put, sA, sB, sC])
     refine tkH 7 (some 56) ?_
     (try simp only [Act.put, sA, sB, sC])
     refine tkH 8 (some 57) ?_
     (try simp only [Act.put, sA, sB, sC])
     refine tkH 9 (some 58) ?_
     (try simp only [Act.put, sA, sB, sC])
     refine tkH 10 (some 59) ?_
     (try simp only [Act.put, sA, sB, sC])
     refine tkH 11 (some 60) ?_
     (try simp only [Act.put, sA, sB, sC])
     refine tkH 12 (some 61) ?_
     (try simp only [Act.put, sA, sB, sC])
     refine tkH 13 (some 62) ?_
     (try simp only [Act.put, sA, sB, sC])
     refine tkH 14 (some 63) ?_
     (try simp only [Act.put, sA, sB, sC])
     refine tkH 15 (some 64) ?_
     (try simp only [Act.put, sA, sB, sC])
     refine tkH 16 (some 65) ?_
     (try simp only [Act.put, sA, sB, sC])
     refine tkH 17 (some 66) ?_
     (try simp only [Act.put, sA, sB, sC])
     refine tkH 18 (some 67) ?_
     (try simp only [Act.put, sA, sB, sC])
     refine tkH 19 (some 68) ?_
     (try simp only [Act.put, sA, sB, sC])
     refine wpAnyH_one (i := 20) rfl (by kernel_rfl) (by rfl) (fun K hK => ?_)
     go_simp
     generalize hX6 : World.drew (World.setCell x3 _ _) = X6
     have hS6 : ∀ b o, b ≠ g → X6.cell? ⟨b, o, none⟩ = x3.cell? ⟨b, o, none⟩ := fun b o h => by rw [← hX6]; exact cell_set_ne h
     have hE6 : Ev x2 X6 := by rw [← hX6]; exact Ev.drew (Ev.setCell (p := ⟨g, kk, none⟩) HT3.out (show x2.heap.size ≤ g by omega) _)
     have hQ6 := hid (show X6.heap[p2]? = some (.cells #[.int .i64 t.st, .slice (some ⟨g, 0, none⟩) nw du] 30 (0, 0)) from by rw [← hX6]; exact set_heap HQU.out (Ne.symm hgu))
     have hO6 := hid (show X6.ownsRow x2.heap.size 3 1 (.slice (some ⟨g, 0, none⟩) nw du) nw ((t.wet.set kk (y + (mo : Int))).flatMap ics) from by rw [← hX6]; exact (own_putI HOU.out kk _).ev (Ev.drew (Ev.refl _)))
     clear hX6
     refine hK.out _ _ (⟨fun o => hS6 _ o hw0, fun o => hS6 _ o hp0, fun o => hS6 _ o (Ne.symm hgu), fun o => hS6 _ o hbt0, fun o => hS6 _ o hbr0⟩) (fun hHeld => ?_)
     clear hK K
     (try simp only [Act.put, sA, sB, sC])
     refine wpAnyH_done (by kernel_rfl) ?_ _
     go_wp2_with fail
     go_meet
     exact ⟨hE6, hQ6, hO6⟩
   case rest =>
    clear y0 y1 y2 y3 y4 y5 y6 y7 y8 y9 c0 c1 d0 d1 e0 e1 e2
    clear HSE HQU HOU hfg hcg hAt hAr
    obtain ⟨hEx, HQU, HOU⟩ := hcut
    obtain ⟨x4, hx4⟩ : ∃ x, x = wc := ⟨_, rfl⟩
    subst hx4
    have HE4 := hid (HE2.out.trans hEx)
    have HV4 := hid (HV2.out.trans hEx)
    have HT4 := hid hEx
    have HU4 := hid (Ev.refl x4)
    have HSU := hid (sl_own (enc := ics) (by decide) (ics_len _) (by omega) HOU.out)
    clear hEx
    obtain ⟨y0, y1, y2, y3, y4, y5, y6, y7, y8, y9⟩ := cells10 (HV4.out.heap Q0.out)
    obtain ⟨c0, c1⟩ := cells2 (HT4.out.heap HQT.out)
    go_upto_region 7 with fail
    go_cut [14] (fun v W => ∃ p3 : Nat, v = .pointer (some ⟨p3, 0, none⟩) ∧ Ev x4 W ∧ Hid (W.heap[p3]? = some (.cells #[.int .i64 sn, .slice Bw nw dw] 30 (0, 0))))
    case first =>
     by_cases cm : f.st.hi ≤ t.st + (mo : Int)
     ·
      as_aux_lemma =>
      have hz := HSN.out
      have cm1 : min f.st.hi (t.st + (mo : Int)) = f.st.hi := by omega
      rw [cm1] at hz
      have cm2 : ¬ (t.st + (mo : Int) < f.st.hi) := by omega
      subst hz
      go_wp2_with fail
      go_meet
      exact ⟨x4.heap.size, rfl, Ev.alloc (Ev.refl _) _, hid (alloc1 x4 _).1⟩
     ·
      as_aux_lemma =>
      have hz := HSN.out
      have cm1 : min f.st.hi (t.st + (mo : Int)) = t.st + (mo : Int) := by omega
      rw [cm1] at hz
      have cm2 : t.st + (mo : Int) < f.st.hi := by omega
      subst hz
      go_wp2_with fail
      go_meet
      exact ⟨x4.heap.size, rfl, Ev.alloc (Ev.refl _) _, hid (alloc1 x4 _).1⟩
    case rest =>
     clear y0 y1 y2 y3 y4 y5 y6 y7 y8 y9 c0 c1
     obtain ⟨p3, rfl, hEx, HQ3⟩ := hcut
     obtain ⟨x5, hx5⟩ : ∃ x, x = wc := ⟨_, rfl⟩
     subst hx5
     have HE5 := hid (HE4.out.trans hEx)
     have HV5 := hid (HV4.out.trans hEx)
     have HT5 := hid (HT4.out.trans hEx)
     have HU5 := hid (HU4.out.trans hEx)
     have HP5 := hid (Ev.refl x5)
     clear hEx
     obtain ⟨y0, y1, y2, y3, y4, y5, y6, y7, y8, y9⟩ := cells10 (HV5.out.heap Q0.out)
     go_upto_region 9 with (go_at_call 52; with_reducible refine (HTU.out _).mono ?_; rintro e x6 ⟨⟨BTN, dTN, rfl, htn⟩, hb⟩; have HE6 := hid (HE5.out.trans hb); have HV6 := hid (HV5.out.trans hb); have HT6 := hid (HT5.out.trans hb); have HU6 := hid (HU5.out.trans hb); have HP6 := hid (HP5.out.trans hb); have HN6 := hid (Ev.refl x6); have HTN := hid htn; clear htn; clear hb)
     clear y0 y1 y2 y3 y4 y5 y6 y7 y8 y9
     obtain ⟨y0, y1, y2, y3, y4, y5, y6, y7, y8, y9⟩ := cells10 (HV6.out.heap Q0.out)
     obtain ⟨c0, c1⟩ := cells2 (HT6.out.heap HQT.out)
     have l0 := heap_lt (HV6.out.heap Q0.out)
     have l1 := heap_lt (HT6.out.heap HQT.out)
     go_upto_region 9 with fail
     have HSE : Hid (∀ w', Ev x6 w' → (∀ o, w'.cell? ⟨w.heap.size, o, none⟩ = x6.cell? ⟨w.heap.size, o, none⟩) ∧ (∀ o, w'.cell? ⟨p, o, none⟩ = x6.cell? ⟨p, o, none⟩)) := hid (fun w' h => ⟨fun o => h.cells.1 _ o l0, fun o => h.cells.1 _ o l1⟩)
     go_cut [16, 17] (fun v1 v2 W => ∃ (BP : Option Addr) (dP : Nat), v1 = .slice BP nw dP ∧ v2 = .int .i64 0 ∧ Ev x6 W ∧ Hid (Sl ics 1 W W.heap.size BP nw dP ((M.heats f t plan).take nw)))
     case first =>
      as_aux_lemma =>
       refine wp_region_held_drew (S := fun w' => (∀ o, w'.cell? ⟨w.heap.size, o, none⟩ = x6.cell? ⟨w.heap.size, o, none⟩) ∧ (∀ o, w'.cell? ⟨p, o, none⟩ = x6.cell? ⟨p, o, none⟩)) (by kernel_rfl) (⟨fun o => rfl, fun o => rfl⟩) (fun hHeld => ?_)
       refine tkH 0 (some 86) ?_
       (try simp only [Act.put, sA, sB, sC])
       refine tkH 2 (some 88) ?_
       (try simp only [Act.put, sA, sB, sC])
       refine tkH 4 (some 90) ?_
       (try simp only [Act.put, sA, sB, sC])
       refine wpAnyH_one (i := 1) rfl (by kernel_rfl) (by rfl) (fun K hK => ?_)
       go_simp
       refine (Heap_c f Aw At Ar nw cw nt ct nr cr (by omega) (by omega) (by omega) _ (HCS.out.ev (HE6.out.trans (Ev.drew (Ev.refl _))))).mono ?_
       rintro e z1 ⟨⟨Bw7, dw7, Bt7, dt7, Br7, dr7, rfl, hc⟩, hb1⟩
       have hy1 : Ev x6 z1 := Ev.trans (Ev.drew (Ev.refl _)) hb1
       refine hK.out _ _ (HSE.out _ hy1) (fun hHeld => ?_)
       clear hK K
       (try simp only [Act.put, sA, sB, sC])
       refine wpAnyH_one (i := 3) rfl (by kernel_rfl) (by rfl) (fun K hK => ?_)
       go_simp
       refine (Truth_c Bw nw dw t (by omega) _ (HSW.out.ev (HT6.out.trans hy1))).mono ?_
       rintro e z3 ⟨⟨T1, u1, rfl, ht1⟩, hb3⟩
       have hy3 : Ev x6 z3 := Ev.trans hy1 hb3
       refine hK.out _ _ (HSE.out _ hy3) (fun hHeld => ?_)
       clear hK K
       (try simp only [Act.put, sA, sB, sC])
       refine wpAnyH_one (i := 5) rfl (by kernel_rfl) (by rfl) (fun K hK => ?_)
       go_simp
       refine (list_c BTN pn dTN plan (by omega) _ (HTN.out.ev (HN6.out.trans hy3))).mono ?_
       rintro e z5 ⟨⟨L, dL, rfl, hl3⟩, hb5⟩
       have hy5 : Ev x6 z5 := Ev.trans hy3 hb5
       refine hK.out _ _ (HSE.out _ hy5) (fun hHeld => ?_)
       clear hK K
       (try simp only [Act.put, sA, sB, sC])
       refine wpAnyH_one (i := 6) rfl (by kernel_rfl) (by rfl) (fun K hK => ?_)
       go_simp
       refine (HPA.out Bw7 dw7 Bt7 dt7 Br7 dr7 T1 u1 L dL _ ((hc.ev hb3).ev hb5) (ht1.ev hb5) (sl_own (enc := ics) (by decide) (ics_len _) (by omega) hl3)).mono ?_
       rintro e z6 ⟨⟨BP7, dP7, rfl, hown⟩, hb6⟩
       have hy6 : Ev x6 z6 := Ev.trans hy5 hb6
       refine hK.out _ _ (HSE.out _ hy6) (fun hHeld => ?_)
       clear hK K
       (try simp only [Act.put, sA, sB, sC])
       refine tkH 7 (some 85) ?_
       (try simp only [Act.put, sA, sB, sC])
       refine tkH 8 (some 93) ?_
       (try simp only [Act.put, sA, sB, sC])
       refine tkH 9 (some 94) ?_
       (try simp only [Act.put, sA, sB, sC])
       refine tkH 10 (some 16) ?_
       (try simp only [Act.put, sA, sB, sC])
       refine tkH 11 (some 17) ?_
       (try simp only [Act.put, sA, sB, sC])
       refine wpAnyH_done (by kernel_rfl) ?_ _
       go_wp2_with fail
       go_meet
       exact ⟨BP7, dP7, rfl, rfl, hy6, hid hown⟩
     case rest =>
     clear y0 y1 y2 y3 y4 y5 y6 y7 y8 y9
     clear c0 c1 l0 l1 HSE
     obtain ⟨BP7, dP7, rfl, rfl, hx7, HO7⟩ := hcut
     obtain ⟨x7, hw7⟩ : ∃ x, x = wc := ⟨_, rfl⟩
     subst hw7
     have HE7 := hid (HE6.out.trans hx7)
     have HV7 := hid (HV6.out.trans hx7)
     have HT7 := hid (HT6.out.trans hx7)
     have HU7 := hid (HU6.out.trans hx7)
     have HP7 := hid (HP6.out.trans hx7)
     have HN7 := hid (HN6.out.trans hx7)
     have HR7_7 := hid (Ev.refl x7)
     clear hx7
     obtain ⟨y0, y1, y2, y3, y4, y5, y6, y7, y8, y9⟩ := cells10 (HV7.out.heap Q0.out)
     obtain ⟨c0, c1⟩ := cells2 (HU7.out.heap HQU.out)
     have l0 := heap_lt (HV7.out.heap Q0.out)
     have l1 := heap_lt (HU7.out.heap HQU.out)
     go_upto_region 10 with fail
     have HSE : Hid (∀ w', Ev x7 w' → (∀ o, w'.cell? ⟨w.heap.size, o, none⟩ = x7.cell? ⟨w.heap.size, o, none⟩) ∧ (∀ o, w'.cell? ⟨p2, o, none⟩ = x7.cell? ⟨p2, o, none⟩)) := hid (fun w' h => ⟨fun o => h.cells.1 _ o l0, fun o => h.cells.1 _ o l1⟩)
     go_cut [18, 19] (fun v1 v2 W => ∃ (BP : Option Addr) (dP : Nat), v1 = .slice BP nw dP ∧ v2 = .int .i64 0 ∧ Ev x7 W ∧ Hid (Sl ics 1 W W.heap.size BP nw dP ((M.heats f ⟨t.st, t.wet.set kk yn⟩ plan).take nw)))
     case first =>
      as_aux_lemma =>
       refine wp_region_held_drew (S := fun w' => (∀ o, w'.cell? ⟨w.heap.size, o, none⟩ = x7.cell? ⟨w.heap.size, o, none⟩) ∧ (∀ o, w'.cell? ⟨p2, o, none⟩ = x7.cell? ⟨p2, o, none⟩)) (by kernel_rfl) (⟨fun o => rfl, fun o => rfl⟩) (fun hHeld => ?_)
       refine tkH 0 (some 96) ?_
       (try simp only [Act.put, sA, sB, sC])
       refine tkH 2 (some 98) ?_
       (try simp only [Act.put, sA, sB, sC])
       refine tkH 4 (some 100) ?_
       (try simp only [Act.put, sA, sB, sC])
       refine wpAnyH_one (i := 1) rfl (by kernel_rfl) (by rfl) (fun K hK => ?_)
       go_simp
       refine (Heap_c f Aw At Ar nw cw nt ct nr cr (by omega) (by omega) (by omega) _ (HCS.out.ev (HE7.out.trans (Ev.drew (Ev.refl _))))).mono ?_
       rintro e z1 ⟨⟨Bw8, dw8, Bt8, dt8, Br8, dr8, rfl, hc⟩, hb1⟩
       have hy1 : Ev x7 z1 := Ev.trans (Ev.drew (Ev.refl _)) hb1
       refine hK.out _ _ (HSE.out _ hy1) (fun hHeld => ?_)
       clear hK K
       (try simp only [Act.put, sA, sB, sC])
       refine wpAnyH_one (i := 3) rfl (by kernel_rfl) (by rfl) (fun K hK => ?_)
       go_simp
       refine (Truth_c (some ⟨g, 0, none⟩) nw du ⟨t.st, t.wet.set kk yn⟩ (by omega) _ (HSU.out.ev (HU7.out.trans hy1))).mono ?_
       rintro e z3 ⟨⟨T1, u1, rfl, ht1⟩, hb3⟩
       have hy3 : Ev x7 z3 := Ev.trans hy1 hb3
       refine hK.out _ _ (HSE.out _ hy3) (fun hHeld => ?_)
       clear hK K
       (try simp only [Act.put, sA, sB, sC])
       refine wpAnyH_one (i := 5) rfl (by kernel_rfl) (by rfl) (fun K hK => ?_)
       go_simp
       refine (list_c BTN pn dTN plan (by omega) _ (HTN.out.ev (HN7.out.trans hy3))).mono ?_
       rintro e z5 ⟨⟨L, dL, rfl, hl3⟩, hb5⟩
       have hy5 : Ev x7 z5 := Ev.trans hy3 hb5
       refine hK.out _ _ (HSE.out _ hy5) (fun hHeld => ?_)
       clear hK K
       (try simp only [Act.put, sA, sB, sC])
       refine wpAnyH_one (i := 6) rfl (by kernel_rfl) (by rfl) (fun K hK => ?_)
       go_simp
       refine (HPB.out Bw8 dw8 Bt8 dt8 Br8 dr8 T1 u1 L dL _ ((hc.ev hb3).ev hb5) (ht1.ev hb5) (sl_own (enc := ics) (by decide) (ics_len _) (by omega) hl3)).mono ?_
       rintro e z6 ⟨⟨BP8, dP8, rfl, hown⟩, hb6⟩
       have hy6 : Ev x7 z6 := Ev.trans hy5 hb6
       refine hK.out _ _ (HSE.out _ hy6) (fun hHeld => ?_)
       clear hK K
       (try simp only [Act.put, sA, sB, sC])
       refine tkH 7 (some 95) ?_
       (try simp only [Act.put, sA, sB, sC])
       refine tkH 8 (some 103) ?_
       (try simp only [Act.put, sA, sB, sC])
       refine tkH 9 (some 104) ?_
       (try simp only [Act.put, sA, sB, sC])
       refine tkH 10 (some 18) ?_
       (try simp only [Act.put, sA, sB, sC])
       refine tkH 11 (some 19) ?_
       (try simp only [Act.put, sA, sB, sC])
       refine wpAnyH_done (by kernel_rfl) ?_ _
       go_wp2_with fail
       go_meet
       exact ⟨BP8, dP8, rfl, rfl, hy6, hid hown⟩
     case rest =>
     clear y0 y1 y2 y3 y4 y5 y6 y7 y8 y9
     clear c0 c1 l0 l1 HSE
     obtain ⟨BP8, dP8, rfl, rfl, hx8, HO8⟩ := hcut
     obtain ⟨x8, hw8⟩ : ∃ x, x = wc := ⟨_, rfl⟩
     subst hw8
     have HE8 := hid (HE7.out.trans hx8)
     have HV8 := hid (HV7.out.trans hx8)
     have HT8 := hid (HT7.out.trans hx8)
     have HU8 := hid (HU7.out.trans hx8)
     have HP8 := hid (HP7.out.trans hx8)
     have HN8 := hid (HN7.out.trans hx8)
     have HR7_8 := hid (HR7_7.out.trans hx8)
     have HR8_8 := hid (Ev.refl x8)
     clear hx8
     obtain ⟨y0, y1, y2, y3, y4, y5, y6, y7, y8, y9⟩ := cells10 (HV8.out.heap Q0.out)
     obtain ⟨c0, c1⟩ := cells2 (HP8.out.heap HQ3.out)
     have l0 := heap_lt (HV8.out.heap Q0.out)
     have l1 := heap_lt (HP8.out.heap HQ3.out)
     go_upto_region 11 with fail
     have HSE : Hid (∀ w', Ev x8 w' → (∀ o, w'.cell? ⟨w.heap.size, o, none⟩ = x8.cell? ⟨w.heap.size, o, none⟩) ∧ (∀ o, w'.cell? ⟨p3, o, none⟩ = x8.cell? ⟨p3, o, none⟩)) := hid (fun w' h => ⟨fun o => h.cells.1 _ o l0, fun o => h.cells.1 _ o l1⟩)
     go_cut [20, 21] (fun v1 v2 W => ∃ (BP : Option Addr) (dP : Nat), v1 = .slice BP nw dP ∧ v2 = .int .i64 0 ∧ Ev x8 W ∧ Hid (Sl ics 1 W W.heap.size BP nw dP ((M.heats f ⟨sn, t.wet⟩ plan).take nw)))
     case first =>
      as_aux_lemma =>
       refine wp_region_held_drew (S := fun w' => (∀ o, w'.cell? ⟨w.heap.size, o, none⟩ = x8.cell? ⟨w.heap.size, o, none⟩) ∧ (∀ o, w'.cell? ⟨p3, o, none⟩ = x8.cell? ⟨p3, o, none⟩)) (by kernel_rfl) (⟨fun o => rfl, fun o => rfl⟩) (fun hHeld => ?_)
       refine tkH 0 (some 106) ?_
       (try simp only [Act.put, sA, sB, sC])
       refine tkH 2 (some 108) ?_
       (try simp only [Act.put, sA, sB, sC])
       refine tkH 4 (some 110) ?_
       (try simp only [Act.put, sA, sB, sC])
       refine wpAnyH_one (i := 1) rfl (by kernel_rfl) (by rfl) (fun K hK => ?_)
       go_simp
       refine (Heap_c f Aw At Ar nw cw nt ct nr cr (by omega) (by omega) (by omega) _ (HCS.out.ev (HE8.out.trans (Ev.drew (Ev.refl _))))).mono ?_
       rintro e z1 ⟨⟨Bw9, dw9, Bt9, dt9, Br9, dr9, rfl, hc⟩, hb1⟩
       have hy1 : Ev x8 z1 := Ev.trans (Ev.drew (Ev.refl _)) hb1
       refine hK.out _ _ (HSE.out _ hy1) (fun hHeld => ?_)
       clear hK K
       (try simp only [Act.put, sA, sB, sC])
       refine wpAnyH_one (i := 3) rfl (by kernel_rfl) (by rfl) (fun K hK => ?_)
       go_simp
       refine (Truth_c Bw nw dw ⟨sn, t.wet⟩ (by omega) _ (HSW.out.ev (HT8.out.trans hy1))).mono ?_
       rintro e z3 ⟨⟨T1, u1, rfl, ht1⟩, hb3⟩
       have hy3 : Ev x8 z3 := Ev.trans hy1 hb3
       refine hK.out _ _ (HSE.out _ hy3) (fun hHeld => ?_)
       clear hK K
       (try simp only [Act.put, sA, sB, sC])
       refine wpAnyH_one (i := 5) rfl (by kernel_rfl) (by rfl) (fun K hK => ?_)
       go_simp
       refine (list_c BTN pn dTN plan (by omega) _ (HTN.out.ev (HN8.out.trans hy3))).mono ?_
       rintro e z5 ⟨⟨L, dL, rfl, hl3⟩, hb5⟩
       have hy5 : Ev x8 z5 := Ev.trans hy3 hb5
       refine hK.out _ _ (HSE.out _ hy5) (fun hHeld => ?_)
       clear hK K
       (try simp only [Act.put, sA, sB, sC])
       refine wpAnyH_one (i := 6) rfl (by kernel_rfl) (by rfl) (fun K hK => ?_)
       go_simp
       refine (HPC.out Bw9 dw9 Bt9 dt9 Br9 dr9 T1 u1 L dL _ ((hc.ev hb3).ev hb5) (ht1.ev hb5) (sl_own (enc := ics) (by decide) (ics_len _) (by omega) hl3)).mono ?_
       rintro e z6 ⟨⟨BP9, dP9, rfl, hown⟩, hb6⟩
       have hy6 : Ev x8 z6 := Ev.trans hy5 hb6
       refine hK.out _ _ (HSE.out _ hy6) (fun hHeld => ?_)
       clear hK K
       (try simp only [Act.put, sA, sB, sC])
       refine tkH 7 (some 105) ?_
       (try simp only [Act.put, sA, sB, sC])
       refine tkH 8 (some 113) ?_
       (try simp only [Act.put, sA, sB, sC])
       refine tkH 9 (some 114) ?_
       (try simp only [Act.put, sA, sB, sC])
       refine tkH 10 (some 20) ?_
       (try simp only [Act.put, sA, sB, sC])
       refine tkH 11 (some 21) ?_
       (try simp only [Act.put, sA, sB, sC])
       refine wpAnyH_done (by kernel_rfl) ?_ _
       go_wp2_with fail
       go_meet
       exact ⟨BP9, dP9, rfl, rfl, hy6, hid hown⟩
     case rest =>
     clear y0 y1 y2 y3 y4 y5 y6 y7 y8 y9
     clear c0 c1 l0 l1 HSE
     obtain ⟨BP9, dP9, rfl, rfl, hx9, HO9⟩ := hcut
     obtain ⟨x9, hw9⟩ : ∃ x, x = wc := ⟨_, rfl⟩
     subst hw9
     have HE9 := hid (HE8.out.trans hx9)
     have HV9 := hid (HV8.out.trans hx9)
     have HT9 := hid (HT8.out.trans hx9)
     have HU9 := hid (HU8.out.trans hx9)
     have HP9 := hid (HP8.out.trans hx9)
     have HN9 := hid (HN8.out.trans hx9)
     have HR7_9 := hid (HR7_8.out.trans hx9)
     have HR8_9 := hid (HR8_8.out.trans hx9)
     have HR9_9 := hid (Ev.refl x9)
     clear hx9
     obtain ⟨y0, y1, y2, y3, y4, y5, y6, y7, y8, y9⟩ := cells10 (HV9.out.heap Q0.out)
     obtain ⟨c0, c1⟩ := cells2 (HT9.out.heap HQT.out)
     have l0 := heap_lt (HV9.out.heap Q0.out)
     have l1 := heap_lt (HT9.out.heap HQT.out)
     go_upto_region 12 with fail
     have HSE : Hid (∀ w', Ev x9 w' → (∀ o, w'.cell? ⟨w.heap.size, o, none⟩ = x9.cell? ⟨w.heap.size, o, none⟩) ∧ (∀ o, w'.cell? ⟨p, o, none⟩ = x9.cell? ⟨p, o, none⟩)) := hid (fun w' h => ⟨fun o => h.cells.1 _ o l0, fun o => h.cells.1 _ o l1⟩)
     go_cut [22, 23] (fun v1 v2 W => ∃ (BP : Option Addr) (dP : Nat), v1 = .slice BP nw dP ∧ v2 = .int .i64 0 ∧ Ev x9 W ∧ Hid (Sl ics 1 W W.heap.size BP nw dP ((M.heats f t plan2).take nw)))
     case first =>
      as_aux_lemma =>
       refine wp_region_held_drew (S := fun w' => (∀ o, w'.cell? ⟨w.heap.size, o, none⟩ = x9.cell? ⟨w.heap.size, o, none⟩) ∧ (∀ o, w'.cell? ⟨p, o, none⟩ = x9.cell? ⟨p, o, none⟩)) (by kernel_rfl) (⟨fun o => rfl, fun o => rfl⟩) (fun hHeld => ?_)
       refine tkH 0 (some 116) ?_
       (try simp only [Act.put, sA, sB, sC])
       refine tkH 2 (some 118) ?_
       (try simp only [Act.put, sA, sB, sC])
       refine tkH 4 (some 120) ?_
       (try simp only [Act.put, sA, sB, sC])
       refine tkH 5 (some 121) ?_
       (try simp only [Act.put, sA, sB, sC])
       refine tkH 6 (some 122) ?_
       (try simp only [Act.put, sA, sB, sC])
       refine tkH 7 (some 123) ?_
       (try simp only [Act.put, sA, sB, sC])
       refine tkH 8 (some 124) ?_
       (try simp only [Act.put, sA, sB, sC])
       refine tkH 9 (some 125) ?_
       (try simp only [Act.put, sA, sB, sC])
       refine wpAnyH_one (i := 1) rfl (by kernel_rfl) (by rfl) (fun K hK => ?_)
       go_simp
       refine (Heap_c f Aw At Ar nw cw nt ct nr cr (by omega) (by omega) (by omega) _ (HCS.out.ev (HE9.out.trans (Ev.drew (Ev.refl _))))).mono ?_
       rintro e z1 ⟨⟨Bw10, dw10, Bt10, dt10, Br10, dr10, rfl, hc⟩, hb1⟩
       have hy1 : Ev x9 z1 := Ev.trans (Ev.drew (Ev.refl _)) hb1
       refine hK.out _ _ (HSE.out _ hy1) (fun hHeld => ?_)
       clear hK K
       (try simp only [Act.put, sA, sB, sC])
       refine wpAnyH_one (i := 3) rfl (by kernel_rfl) (by rfl) (fun K hK => ?_)
       go_simp
       refine (Truth_c Bw nw dw t (by omega) _ (HSW.out.ev (HT9.out.trans hy1))).mono ?_
       rintro e z3 ⟨⟨T1, u1, rfl, ht1⟩, hb3⟩
       have hy3 : Ev x9 z3 := Ev.trans hy1 hb3
       refine hK.out _ _ (HSE.out _ hy3) (fun hHeld => ?_)
       clear hK K
       (try simp only [Act.put, sA, sB, sC])
       refine wpAnyH_one (i := 10) rfl (by kernel_rfl) (by rfl) (fun K hK => ?_)
       go_simp
       refine (HT2.out _).mono ?_
       rintro e z10 ⟨⟨L, dL, rfl, hl3⟩, hb10⟩
       have hy10 : Ev x9 z10 := Ev.trans hy3 hb10
       refine hK.out _ _ (HSE.out _ hy10) (fun hHeld => ?_)
       clear hK K
       (try simp only [Act.put, sA, sB, sC])
       refine wpAnyH_one (i := 11) rfl (by kernel_rfl) (by rfl) (fun K hK => ?_)
       go_simp
       refine (HPD.out Bw10 dw10 Bt10 dt10 Br10 dr10 T1 u1 L dL _ ((hc.ev hb3).ev hb10) (ht1.ev hb10) hl3).mono ?_
       rintro e z11 ⟨⟨BP10, dP10, rfl, hown⟩, hb11⟩
       have hy11 : Ev x9 z11 := Ev.trans hy10 hb11
       refine hK.out _ _ (HSE.out _ hy11) (fun hHeld => ?_)
       clear hK K
       (try simp only [Act.put, sA, sB, sC])
       refine tkH 12 (some 115) ?_
       (try simp only [Act.put, sA, sB, sC])
       refine tkH 13 (some 128) ?_
       (try simp only [Act.put, sA, sB, sC])
       refine tkH 14 (some 129) ?_
       (try simp only [Act.put, sA, sB, sC])
       refine tkH 15 (some 22) ?_
       (try simp only [Act.put, sA, sB, sC])
       refine tkH 16 (some 23) ?_
       (try simp only [Act.put, sA, sB, sC])
       refine wpAnyH_done (by kernel_rfl) ?_ _
       go_wp2_with fail
       go_meet
       exact ⟨BP10, dP10, rfl, rfl, hy11, hid hown⟩
     case rest =>
     clear y0 y1 y2 y3 y4 y5 y6 y7 y8 y9
     clear c0 c1 l0 l1 HSE
     obtain ⟨BP10, dP10, rfl, rfl, hx10, HO10⟩ := hcut
     obtain ⟨x10, hw10⟩ : ∃ x, x = wc := ⟨_, rfl⟩
     subst hw10
     have HE10 := hid (HE9.out.trans hx10)
     have HV10 := hid (HV9.out.trans hx10)
     have HT10 := hid (HT9.out.trans hx10)
     have HU10 := hid (HU9.out.trans hx10)
     have HP10 := hid (HP9.out.trans hx10)
     have HN10 := hid (HN9.out.trans hx10)
     have HR7_10 := hid (HR7_9.out.trans hx10)
     have HR8_10 := hid (HR8_9.out.trans hx10)
     have HR9_10 := hid (HR9_9.out.trans hx10)
     have HR10_10 := hid (Ev.refl x10)
     clear hx10
     obtain ⟨y0, y1, y2, y3, y4, y5, y6, y7, y8, y9⟩ := cells10 (HV10.out.heap Q0.out)
     go_upto_region 17 with (with_reducible refine ⟨trivial, ?_⟩)
     clear y0 y1 y2 y3 y4 y5 y6 y7 y8 y9
     go_loopw [25] (fun i wr => ∃ k : Nat, i = .int .i64 k ∧ k ≤ nw ∧ Ev x10 wr) (fun i _ => nw - (intOf i).toNat)
     case atStart => exact ⟨0, rfl, by omega, Ev.refl _⟩
     case round =>
      obtain ⟨k, rfl, hk, hB⟩ := hrel
      obtain ⟨W1, hW1⟩ : ∃ x, x = wr := ⟨_, rfl⟩
      subst hW1
      by_cases hlt : k < nw
      ·
       have hltI : (k : Int) < f.last + 1 := by have := HNL.out; omega
       have hltN : (k : Int) < (nw : Int) := by omega
       obtain ⟨k1, k2, k3, k4⟩ := HEND.out k hlt
       obtain ⟨ba, oa, va, hAa, hba, hxa, _, ea⟩ := (HO7.out.ev HR7_10.out).int hB hlt
       have hva := HXA.out k va hlt hxa
       have capa := HO7.out.cap
       subst hAa
       clear hxa
       obtain ⟨bb, ob, vb, hAb, hbb, hxb, _, eb⟩ := (HO8.out.ev HR8_10.out).int hB hlt
       have hvb := HXB.out k vb hlt hxb
       have capb := HO8.out.cap
       subst hAb
       clear hxb
       obtain ⟨bc, oc, vc, hAc, hbc, hxc, _, ec⟩ := (HO9.out.ev HR9_10.out).int hB hlt
       have hvc := HXC.out k vc hlt hxc
       have capc := HO9.out.cap
       subst hAc
       clear hxc
       obtain ⟨bd, od, vd, hAd, hbd, hxd, _, ed⟩ := (HO10.out.ev HR10_10.out).int hB hlt
       have hvd := HXD.out k vd hlt hxd
       have capd := HO10.out.cap
       subst hAd
       clear hxd
       rw [hva, hvb] at k1
       rw [hva, hvc] at k2
       rw [hva, hvd] at k3
       rw [hva, hvb, hvd] at k4
       have z1 : ¬ (vb < va) := by omega
       have z2 : ¬ (vc < va) := by omega
       have z3 : ¬ (vd > va) := by omega
       have z3' : ¬ (va < vd) := by omega
       clear hva hvb hvc hvd k1 k2 k3
       by_cases hkk2 : k < kk
       ·
        as_aux_lemma =>
        have hkI : (k : Int) < (kk : Int) := by omega
        obtain ⟨k5, k6⟩ := k4 hkk2
        have z5 : (vb != va) = false := by rw [k5]; simp
        have z6 : (vd != va) = false := by rw [k6]; simp
        clear k4 k5 k6
        go_wp2_with (go_quiet (fail))
        exact ⟨⟨k + 1, by go_num, by omega, hB.drewN _⟩, by simp [intOf]; omega⟩
       ·
        as_aux_lemma =>
        have hkI : ¬ ((k : Int) < (kk : Int)) := by omega
        clear k4
        go_wp2_with (go_quiet (fail))
        exact ⟨⟨k + 1, by go_num, by omega, hB.drewN _⟩, by simp [intOf]; omega⟩
      ·
       as_aux_lemma =>
       have hn9 : ¬ ((k : Int) < f.last + 1) := by have := HNL.out; omega
       go_wp2_with (go_at_call 19; with_reducible refine (awake_c _).mono ?_; rintro e w99 ⟨rfl, hb99⟩)
       go_ret
       exact ⟨rfl, (HE10.out.trans hB).trans hb99⟩

theorem couchWetter_c (f : M.Cf) (Aw At Ar : Option Addr) (nw cw nt ct nr cr : Nat) (hl0 : -9223372036854775808 ≤ f.last) (wn : Nat) (hwn : wn < 65536) (n : Nat) (hn : n < 65536) (hr0 : Nat) (hh : hr0 < 256) (mr : Nat) (hm : mr < 256) (w : World) (hs : M.small nw nt nr → CS w w.heap.size f Aw At Ar nw cw nt ct nr cr) :
  Calls Try.prog 10 #[.agg #[.int .i64 f.last, .int .i64 f.size, .int .i64 f.cool, .int .i64 f.die, .int .i64 f.burn, .int .i64 f.st.lo, .int .i64 f.st.hi, .slice Aw nw cw, .slice At nt ct, .slice Ar nr cr], .int .u16 (wn : Int), .int .u16 (n : Int), .int .u8 (hr0 : Int), .int .u8 (mr : Int)] w fun e w' => e = .returned (.bool true) ∧ Ev w w' := by
 cases hr : M.rdy f nw nt nr with
 | false => exact couchWetter_no f Aw At Ar nw cw nt ct nr cr hl0 wn hwn n hn hr0 hh mr hm w hs hr
 | true =>
  have h1 := hr
  unfold M.rdy at h1
  rw [Bool.and_eq_true, Bool.and_eq_true, decide_eq_true_eq, decide_eq_true_eq] at h1
  obtain ⟨⟨hsm, _⟩, h0⟩ := h1
  exact couchWetter_yes f Aw At Ar nw cw nt ct nr cr hl0 wn hwn n hn hr0 hh mr hm w (hid (hs hsm)) hr hsm h0

theorem couchWetter_i (f : M.Cf) (Aw At Ar : Option Addr) (nw cw nt ct nr cr : Nat) (hl0 : -9223372036854775808 ≤ f.last) (a1 : Int) (p1 : 0 ≤ a1) (q1 : a1 < 65536) (a2 : Int) (p2 : 0 ≤ a2) (q2 : a2 < 65536) (a3 : Int) (p3 : 0 ≤ a3) (q3 : a3 < 256) (a4 : Int) (p4 : 0 ≤ a4) (q4 : a4 < 256) (w : World) (hs : M.small nw nt nr → CS w w.heap.size f Aw At Ar nw cw nt ct nr cr) :
  Calls Try.prog 10 #[.agg #[.int .i64 f.last, .int .i64 f.size, .int .i64 f.cool, .int .i64 f.die, .int .i64 f.burn, .int .i64 f.st.lo, .int .i64 f.st.hi, .slice Aw nw cw, .slice At nt ct, .slice Ar nr cr], .int .u16 a1, .int .u16 a2, .int .u8 a3, .int .u8 a4] w fun e w' => e = .returned (.bool true) ∧ Ev w w' := by
 obtain ⟨n1, rfl⟩ : ∃ n : Nat, a1 = n := ⟨a1.toNat, by omega⟩
 obtain ⟨n2, rfl⟩ : ∃ n : Nat, a2 = n := ⟨a2.toNat, by omega⟩
 obtain ⟨n3, rfl⟩ : ∃ n : Nat, a3 = n := ⟨a3.toNat, by omega⟩
 obtain ⟨n4, rfl⟩ : ∃ n : Nat, a4 = n := ⟨a4.toNat, by omega⟩
 exact couchWetter_c f Aw At Ar nw cw nt ct nr cr hl0 n1 (by omega) n2 (by omega) n3 (by omega) n4 (by omega) w hs

end Go.Proofs.Ytgimcephbeajlaa
