import Derived.Test.YtgimcephbeajlaaC13
set_option linter.unusedSimpArgs false
set_option linter.unusedVariables false
namespace Go.Proofs.Ytgimcephbeajlaa
open Go.RowKit Go.Shelf

/-- What the turnings keep of these truths: always (1), never (2), perhaps (3). -/
def M.keepsOf (f : M.Cf) (ts : List M.Tr) (plan : List Int) : Int := if (ts.all fun t => M.stays f t plan) then 1 else if (ts.any fun t => M.stays f t plan) then 3 else 2
theorem Mt.below {mb : Nat} {tb : Option Nat} {a b : World} (h : Mt mb tb a b) {B : Nat} (hm : B ≤ mb) (ht : ∀ j, tb = some j → B ≤ j) (hB : B ≤ a.heap.size) : Go.RowKit.Below B a b :=
 ⟨h.os, h.tape, h.output, h.size, fun k hk => h.block k (by omega) (by omega) (fun e => by have := ht k e.symm; omega)⟩
theorem own_ge {w : World} {base : Nat} {e : TypeId} {sz : Nat} {A : Option Addr} {n c : Nat} {xs : List Value} (h : w.ownsRow base e sz (.slice A n c) n xs) : ∀ j, (Value.slice A n c).ownBlock = some j → base ≤ j ∧ j < w.heap.size ∧ ∃ cs, w.heap[j]? = some (.cells cs e (0, 0)) := by
 intro j hj
 rcases h.2 with ⟨hv, _⟩ | ⟨g, cap, cur, hv, h1, h2, _⟩
 ·
  cases hv; simp [Value.ownBlock] at hj
 ·
  cases hv
  simp [Value.ownBlock] at hj
  subst hj
  exact ⟨h1, heap_lt h2, _, h2⟩
theorem perm_any {α : Type} {xs ys : List α} (h : xs.Perm ys) (q : α → Bool) : xs.any q = ys.any q := by
 rw [Bool.eq_iff_iff, List.any_eq_true, List.any_eq_true]
 exact ⟨fun ⟨x, h1, h2⟩ => ⟨x, h.mem_iff.1 h1, h2⟩, fun ⟨x, h1, h2⟩ => ⟨x, h.mem_iff.2 h1, h2⟩⟩

set_option maxRecDepth 100000 in
set_option maxHeartbeats 2000000 in
theorem keeps1_c (f : M.Cf) (Aw At Ar : Option Addr) (nw cw nt ct nr cr : Nat) (Ts Ss : Option Addr) (ns cs ms ds p mb : Nat) (Tw : Option Addr) (tw twc : Nat) (t : M.Tr) (P : Option Addr) (pn pc : Nat) (plan : List Int) (b0 : Nat) (ts : List M.Tr) (ss : List (List Int)) (h0 : M.check f = 0) (htr : M.listed f t = true) (g2 g3 : Nat) (w : World) (hw : Wc w f Aw At Ar nw cw nt ct nr cr Ts Ss ns cs ms ds p mb b0 ts ss)
  (c2 : w.cell? ⟨g2, 0, none⟩ = some (.pointer (some ⟨p, 0, none⟩))) (c3 : w.cell? ⟨g3, 0, none⟩ = some (.slice P pn pc)) (hwt : Sl ics 1 w w.heap.size Tw tw twc t.wet) (hp : Sl ics 1 w w.heap.size P pn pc plan) :
  Calls Try.prog 105 #[.agg #[.int .i64 t.st, .slice Tw tw twc], .pointer (some ⟨g2, 0, none⟩), .pointer (some ⟨g3, 0, none⟩)] w fun e w' => e = .returned (.bool (M.stays f t plan)) ∧ Wc w' f Aw At Ar nw cw nt ct nr cr Ts Ss ns cs ms ds p mb b0 ts ss ∧ Mo mb w w' := by
 have hE : Ev w (w.alloc (.cells #[.int .i64 t.st, .slice Tw tw twc] 42)) := Ev.alloc (Ev.refl _) _
 have HK := hid (isKept_c f Aw At Ar nw cw nt ct nr cr Ts Ss ns cs ms ds p mb Tw tw twc t P pn pc plan b0 ts ss h0 htr _ (hw.ev hE) (hwt.ev hE) (hp.ev hE))
 have l2 := cell_lt c2
 have l3 := cell_lt c3
 have hml : mb < w.heap.size := by obtain ⟨_, _, hm⟩ := hw.mp; exact hm.lt
 have HE := hid hE
 clear hw hwt hp h0 htr hE
 go_enter Try.func105, Try.ntmps105
 go_wp2_with (go_at_call 106; with_reducible refine HK.out.mono ?_; rintro e w1 ⟨rfl, hw1, hm1⟩)
 go_ret
 exact ⟨rfl, hw1, (Mo.ev HE.out).trans hm1⟩

set_option maxRecDepth 100000 in
set_option maxHeartbeats 4000000 in
theorem idxT_c (f : M.Cf) (Aw At Ar : Option Addr) (nw cw nt ct nr cr : Nat) (Ts Ss : Option Addr) (ns cs ms ds p mb : Nat) (P : Option Addr) (pn pc : Nat) (plan : List Int) (b0 : Nat) (ts : List M.Tr) (ss : List (List Int)) (h0 : M.check f = 0) (hts : ∀ t ∈ ts, M.listed f t = true) (g2 g3 : Nat) (w : World) (hw : Wc w f Aw At Ar nw cw nt ct nr cr Ts Ss ns cs ms ds p mb b0 ts ss) (c2 : w.cell? ⟨g2, 0, none⟩ = some (.pointer (some ⟨p, 0, none⟩))) (c3 : w.cell? ⟨g3, 0, none⟩ = some (.slice P pn pc)) (hp : Sl ics 1 w w.heap.size P pn pc plan) :
  Calls Try.prog 122 #[.slice Ts ns cs, .func (.func 105) #[] #[.pointer (some ⟨g2, 0, none⟩), .pointer (some ⟨g3, 0, none⟩)]] w fun e w' => e = .returned (.int .i64 (M.idxg (fun t => M.stays f t plan) ts 0)) ∧ Wc w' f Aw At Ar nw cw nt ct nr cr Ts Ss ns cs ms ds p mb b0 ts ss ∧ Mo mb w w' := by
 obtain ⟨g0, hgl0, hm0⟩ := hw.mp
 have hml := hm0.lt
 have hn1 := hw.n1
 have htl := hw.len
 have l2 := cell_lt c2
 have l3 := cell_lt c3
 have n2 := map_ne_cell hm0 c2
 have n3 := map_ne_cell hm0 c3
 have HKP := hid (fun (Tw : Option Addr) (tw twc : Nat) (t : M.Tr) (ht : t ∈ ts) W (hW : Wc W f Aw At Ar nw cw nt ct nr cr Ts Ss ns cs ms ds p mb b0 ts ss) (hB : Mo mb w W) h2 => keeps1_c f Aw At Ar nw cw nt ct nr cr Ts Ss ns cs ms ds p mb Tw tw twc t P pn pc plan b0 ts ss h0 (hts t ht) g2 g3 W hW ((hB.cells.1 _ _ l2 n2).trans c2) ((hB.cells.1 _ _ l3 n3).trans c3) h2 (hp.mo hm0 hB (Nat.le_refl _) hB.size))
 have HTL := hid htl
 have HWC := hid hw
 have HMP := hid (show ∃ g', Loads f g' ∧ MapIs Try.prog 139 w mb g' from ⟨g0, hgl0, hm0⟩)
 clear hw hm0 h0 hts htl hgl0 c2 c3 hp
 go_enter Try.func122, Try.ntmps122
 go_wp2
 go_loopw [8] (fun i wr => ∃ k : Nat, i = .int .i64 k ∧ k ≤ ns ∧ Mo mb w wr ∧ (∃ g', Loads f g' ∧ MapIs Try.prog 139 wr mb g') ∧ Hid (M.idxg (fun t => M.stays f t plan) (ts.drop k) k = M.idxg (fun t => M.stays f t plan) ts 0)) (fun i _ => ns - (intOf i).toNat)
 case atStart => exact ⟨0, rfl, by omega, Mo.refl _ _, HMP.out, hid (by simp)⟩
 case round =>
  obtain ⟨k, rfl, hk, hB, hmp, hall⟩ := hrel
  obtain ⟨WO, hWO⟩ : ∃ x, x = wr := ⟨_, rfl⟩
  subst hWO
  have HW1 := hid (HWC.out.mo hB hmp)
  have hBs := hB.size
  by_cases hlt : k < ns
  ·
   obtain ⟨us, huo, hrs⟩ := HW1.out.tr
   have hus := sl_own (enc := thc) (by decide) (thc_len us) (by omega) huo
   obtain ⟨b, off, v, hTs, hb, hx, hd, hcc⟩ := hus.at_ (Below.refl _ _) hlt
   have e0 := hcc 0 _ rfl
   have e1 := hcc 1 _ rfl
   simp only [Nat.add_zero] at e0
   have hcap := hus.cap
   have htk : ts[k]? = some (ts[k]'(by rw [HTL.out]; exact hlt)) := List.getElem?_eq_getElem _
   generalize ts[k]'(by rw [HTL.out]; exact hlt) = t at htk
   have htm := List.mem_of_getElem? htk
   obtain ⟨r1, r2, r3⟩ := hrs.2 k v t hx htk
   have hcon := HKP.out v.2.1 v.2.2.1 v.2.2.2 t htm _ HW1.out hB (sl_own (enc := ics) (by decide) (ics_len _) (by omega) r2)
   rw [← r1] at hcon
   have HD2 := hid (show M.idxg (fun t => M.stays f t plan) (ts.drop k) k = if M.stays f t plan then (k : Int) else M.idxg (fun t => M.stays f t plan) (ts.drop (k + 1)) (k + 1) by rw [drop_some htk]; simp [M.idxg])
   clear hd hcc hus huo hrs r1 r2 htk hx
   subst hTs
   cases hkv : M.stays f t plan with
   | true =>
    rw [hkv] at hcon HD2
    have HC := hid hcon
    clear hcon hkv
    go_wp2_with (go_at_call 105; with_reducible refine HC.out.mono ?_; rintro e w3 ⟨rfl, hw3, hm3⟩)
    go_ret
    exact ⟨ret_int (by rw [← hall.out, HD2.out]; rfl), hw3, hB.trans hm3⟩
   | false =>
    rw [hkv] at hcon HD2
    have HC := hid hcon
    clear hcon hkv
    go_wp2_with (go_at_call 105; with_reducible refine HC.out.mono ?_; rintro e w3 ⟨rfl, hw3, hm3⟩)
    exact ⟨⟨k + 1, by go_num, by omega, hB.trans hm3, hw3.mp, hid (by rw [← hall.out, HD2.out]; rfl)⟩, by simp [intOf]; omega⟩
  ·
   have H : ts.drop k = [] := List.drop_eq_nil_of_le (by rw [HTL.out]; omega)
   have HT := hid (show M.idxg (fun t => M.stays f t plan) ts 0 = -1 by rw [← hall.out, H]; rfl)
   clear hall H
   go_wp2
   go_ret
   exact ⟨ret_int HT.out.symm, HW1.out, hB⟩

set_option maxRecDepth 100000 in
set_option maxHeartbeats 4000000 in
theorem conT_c (f : M.Cf) (Aw At Ar : Option Addr) (nw cw nt ct nr cr : Nat) (Ts Ss : Option Addr) (ns cs ms ds p mb : Nat) (P : Option Addr) (pn pc : Nat) (plan : List Int) (b0 : Nat) (ts : List M.Tr) (ss : List (List Int)) (h0 : M.check f = 0) (hts : ∀ t ∈ ts, M.listed f t = true) (g2 g3 : Nat) (w : World) (hw : Wc w f Aw At Ar nw cw nt ct nr cr Ts Ss ns cs ms ds p mb b0 ts ss) (c2 : w.cell? ⟨g2, 0, none⟩ = some (.pointer (some ⟨p, 0, none⟩))) (c3 : w.cell? ⟨g3, 0, none⟩ = some (.slice P pn pc)) (hp : Sl ics 1 w w.heap.size P pn pc plan) :
  Calls Try.prog 104 #[.slice Ts ns cs, .func (.func 105) #[] #[.pointer (some ⟨g2, 0, none⟩), .pointer (some ⟨g3, 0, none⟩)]] w fun e w' => e = .returned (.bool (ts.any (fun t => M.stays f t plan))) ∧ Wc w' f Aw At Ar nw cw nt ct nr cr Ts Ss ns cs ms ds p mb b0 ts ss ∧ Mo mb w w' := by
 have HC := hid (idxT_c f Aw At Ar nw cw nt ct nr cr Ts Ss ns cs ms ds p mb P pn pc plan b0 ts ss h0 hts g2 g3 w hw c2 c3 hp)
 have HA := hid (M.idxg_any (fun t => M.stays f t plan) ts 0 (by omega))
 clear h0 hts hw c2 c3 hp
 go_enter Try.func104, Try.ntmps104
 go_wp2_with (go_at_call 122; with_reducible refine HC.out.mono ?_; rintro e w1 ⟨rfl, hw1, hm1⟩)
 go_ret
 exact ⟨ret_bool HA.out, hw1, hm1⟩

set_option maxRecDepth 100000 in
set_option maxHeartbeats 4000000 in
theorem keeps_c (f : M.Cf) (Aw At Ar : Option Addr) (nw cw nt ct nr cr : Nat) (Ts Ss : Option Addr) (ns cs ms ds p mb : Nat) (P : Option Addr) (pn pc : Nat) (plan : List Int) (b0 : Nat) (ts : List M.Tr) (ss : List (List Int)) (h0 : M.check f = 0) (hts : ∀ t ∈ ts, M.listed f t = true) (w : World) (hw : Wc w f Aw At Ar nw cw nt ct nr cr Ts Ss ns cs ms ds p mb b0 ts ss) (hp : Sl ics 1 w b0 P pn pc plan) :
  Calls Try.prog 76 #[.pointer (some ⟨p, 0, none⟩), .slice P pn pc] w fun e w' => e = .returned (.int .i64 (M.keepsOf f ts plan)) ∧ (∃ ts', ts'.Perm ts ∧ Wc w' f Aw At Ar nw cw nt ct nr cr Ts Ss ns cs ms ds p mb b0 ts' ss) ∧ Mt mb (Value.slice Ts ns cs).ownBlock w w' := by
 have hal := alloc2 w (.cells #[.pointer (some ⟨p, 0, none⟩)] 110) (.cells #[.slice P pn pc] 25)
 have hE : Ev w ((w.alloc (.cells #[.pointer (some ⟨p, 0, none⟩)] 110)).alloc (.cells #[.slice P pn pc] 25)) := Ev.alloc (Ev.alloc (Ev.refl _) _) _
 have hbd := hw.bd
 have hE0 := hw.ev hE
 have hp0 : Sl ics 1 _ b0 P pn pc plan := hp.keep (Below.evr hE hbd) (Nat.le_refl _)
 have hcon := keepsAlways_c f Aw At Ar nw cw nt ct nr cr Ts Ss ns cs ms ds p mb P pn pc plan b0 ts ss h0 hts _ hE0 (hp0.keep (Below.refl _ _) hE0.bd)
 have how : ∀ j, (Value.slice Ts ns cs).ownBlock = some j → b0 ≤ j ∧ j < w.heap.size := fun j hj => by
  obtain ⟨_, ho, _⟩ := hw.tr
  obtain ⟨h1, h2, _⟩ := own_ge ho j hj
  exact ⟨h1, h2⟩
 have hml : mb < w.heap.size := by obtain ⟨_, _, hm⟩ := hw.mp; exact hm.lt
 have hmb := hw.b1
 have hn2 : w.heap.size ≠ mb := by omega
 have hn3 : w.heap.size + 1 ≠ mb := by omega
 have hg2 : some w.heap.size ≠ (Value.slice Ts ns cs).ownBlock := fun e => by have := (how _ e.symm).2; omega
 have hg3 : some (w.heap.size + 1) ≠ (Value.slice Ts ns cs).ownBlock := fun e => by have := (how _ e.symm).2; omega
 have HAL := hid hal
 have HCC := hid (fun (ts' : List M.Tr) w1 (hpm : ts'.Perm ts) (hw1 : Wc w1 f Aw At Ar nw cw nt ct nr cr Ts Ss ns cs ms ds p mb b0 ts' ss) (hm1 : Mt mb (Value.slice Ts ns cs).ownBlock ((w.alloc (.cells #[.pointer (some ⟨p, 0, none⟩)] 110)).alloc (.cells #[.slice P pn pc] 25)) w1) c2 c3 => conT_c f Aw At Ar nw cw nt ct nr cr Ts Ss ns cs ms ds p mb P pn pc plan b0 ts' ss h0 (fun t ht => hts t (hpm.mem_iff.1 ht)) w.heap.size (w.heap.size + 1) w1 hw1 c2 c3 ((hp0.keep (hm1.below hmb (fun j hj => (how j hj).1) hE0.bd) (Nat.le_refl _)).keep (Below.refl _ _) hw1.bd))
 have HPA := hid (fun (ts' : List M.Tr) (hpm : ts'.Perm ts) => perm_any hpm fun t => M.stays f t plan)
 have HKD := hid (show M.keepsOf f ts plan = if (ts.all fun t => M.stays f t plan) then 1 else if (ts.any fun t => M.stays f t plan) then 3 else 2 from rfl)
 have HE := hid hE
 clear hw hal hE hE0 hp0 hp h0 hts hbd how hmb
 cases hv : ts.all fun t => M.stays f t plan with
 | true =>
  rw [hv] at hcon HKD
  have HKA := hid hcon
  clear hcon hv HCC
  go_enter Try.func76, Try.ntmps76
  go_wp2_with (go_at_call 77; refine HKA.out.mono ?_; rintro e w1 ⟨rfl, ⟨ts', hpm, hw1⟩, hm1⟩)
  go_ret
  exact ⟨ret_int HKD.out.symm, ⟨ts', hpm, hw1⟩, (Mt.ev HE.out).trans hm1⟩
 | false =>
  cases ha : ts.any fun t => M.stays f t plan with
  | true =>
   rw [hv, ha] at HKD
   rw [hv] at hcon
   have HCC2 := hid (fun (ts' : List M.Tr) w1 (hpm : ts'.Perm ts) (hw1 : Wc w1 f Aw At Ar nw cw nt ct nr cr Ts Ss ns cs ms ds p mb b0 ts' ss) (hm1 : Mt mb (Value.slice Ts ns cs).ownBlock ((w.alloc (.cells #[.pointer (some ⟨p, 0, none⟩)] 110)).alloc (.cells #[.slice P pn pc] 25)) w1) c2 c3 => (show Calls Try.prog 104 _ w1 (fun e w' => e = .returned (.bool true) ∧ Wc w' f Aw At Ar nw cw nt ct nr cr Ts Ss ns cs ms ds p mb b0 ts' ss ∧ Mo mb w1 w') from by
    have h := HCC.out ts' w1 hpm hw1 hm1 c2 c3
    rw [HPA.out ts' hpm, ha] at h
    exact h))
   have HKA := hid hcon
   clear hcon hv ha HCC
   go_enter Try.func76, Try.ntmps76
   go_wp2_with (first | (go_at_call 77; go_loud (refine HKA.out.mono ?_; rintro e w1 ⟨rfl, ⟨ts', hpm, hw1⟩, hm1⟩; have HP1 := hid (And.intro hpm (And.intro hw1 hm1)); have hx2 := hm1.heap HAL.out.1 hn2 hg2; have hx3 := hm1.heap HAL.out.2.1 hn3 hg3; have c2 := cell_in hx2 0; have c3 := cell_in hx3 0; simp only [List.getElem?_toArray, List.getElem?_cons_zero] at c2 c3; obtain ⟨y0, y1, y2, y3, y4, y5, y6, y7, y8, y9, y10, y11, y12⟩ := cells13 hw1.hd; clear y0 y1 y2 y3 y4 y5 y6 y7 y8 y9 y11 y12; have HCT := hid (HCC2.out ts' w1 hpm hw1 hm1 c2 c3); clear hpm hw1 hm1 hx2 hx3)) | (go_at_call 104; refine HCT.out.mono ?_; rintro e w2 ⟨rfl, hw2, hm2⟩))
   go_ret
   exact ⟨ret_int HKD.out.symm, ⟨_, HP1.out.1, hw2⟩, ((Mt.ev HE.out).trans HP1.out.2.2).trans (Mt.mo hm2)⟩
  | false =>
   rw [hv, ha] at HKD
   rw [hv] at hcon
   have HCC2 := hid (fun (ts' : List M.Tr) w1 (hpm : ts'.Perm ts) (hw1 : Wc w1 f Aw At Ar nw cw nt ct nr cr Ts Ss ns cs ms ds p mb b0 ts' ss) (hm1 : Mt mb (Value.slice Ts ns cs).ownBlock ((w.alloc (.cells #[.pointer (some ⟨p, 0, none⟩)] 110)).alloc (.cells #[.slice P pn pc] 25)) w1) c2 c3 => (show Calls Try.prog 104 _ w1 (fun e w' => e = .returned (.bool false) ∧ Wc w' f Aw At Ar nw cw nt ct nr cr Ts Ss ns cs ms ds p mb b0 ts' ss ∧ Mo mb w1 w') from by
    have h := HCC.out ts' w1 hpm hw1 hm1 c2 c3
    rw [HPA.out ts' hpm, ha] at h
    exact h))
   have HKA := hid hcon
   clear hcon hv ha HCC
   go_enter Try.func76, Try.ntmps76
   go_wp2_with (first | (go_at_call 77; go_loud (refine HKA.out.mono ?_; rintro e w1 ⟨rfl, ⟨ts', hpm, hw1⟩, hm1⟩; have HP1 := hid (And.intro hpm (And.intro hw1 hm1)); have hx2 := hm1.heap HAL.out.1 hn2 hg2; have hx3 := hm1.heap HAL.out.2.1 hn3 hg3; have c2 := cell_in hx2 0; have c3 := cell_in hx3 0; simp only [List.getElem?_toArray, List.getElem?_cons_zero] at c2 c3; obtain ⟨y0, y1, y2, y3, y4, y5, y6, y7, y8, y9, y10, y11, y12⟩ := cells13 hw1.hd; clear y0 y1 y2 y3 y4 y5 y6 y7 y8 y9 y11 y12; have HCT := hid (HCC2.out ts' w1 hpm hw1 hm1 c2 c3); clear hpm hw1 hm1 hx2 hx3)) | (go_at_call 104; refine HCT.out.mono ?_; rintro e w2 ⟨rfl, hw2, hm2⟩))
   go_ret
   exact ⟨ret_int HKD.out.symm, ⟨_, HP1.out.1, hw2⟩, ((Mt.ev HE.out).trans HP1.out.2.2).trans (Mt.mo hm2)⟩

end Go.Proofs.Ytgimcephbeajlaa
