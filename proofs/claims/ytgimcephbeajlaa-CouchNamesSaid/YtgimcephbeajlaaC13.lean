import Derived.Test.YtgimcephbeajlaaC12
import Derived.Laws.CopyOwn
set_option linter.unusedSimpArgs false
set_option linter.unusedVariables false
namespace Go.Proofs.Ytgimcephbeajlaa
open Go.RowKit Go.Shelf

theorem run_copy_rowN {P : Program} (w : World) (dT sT ty elem : TypeId) (sz g o dLen dCap : Nat) (a : Addr) (sLen sCap : Nat) (cur : Array Value) (t : TypeId) (cs : List Value) (n : Nat)
  (hu : P.underlying dT = some (.slice elem)) (hs : (P.info? elem).map (·.size) = some sz)
  (hg : w.heap[g]? = some (.cells cur t (0, 0))) (hn : Nat.min sLen dLen = n) (hc : cs.length = n * sz)
  (hsrc : ∀ j v, cs[j]? = some v → w.cell? (a.add j) = some v) (hfit : o + cs.length ≤ cur.size) (h1 : ∀ v ∈ cs, v.oneCell' = true) :
  (Builtin.copy_ #[dT, sT] ty #[.slice (some ⟨g, o, none⟩) dLen dCap, .slice (some a) sLen sCap]).run P w =
   .ok (goInt n) (w.setRow g (cur.toList.take o ++ cs ++ cur.toList.drop (o + cs.length)).toArray) := by
 have hl := run_loadCells_list (P := P) w a cs hsrc
 have hst := run_storeCells_at P g o t cs 0 cur w hg (by simpa using hfit) h1
 rw [hc] at hl
 cases hq : P.info? elem with
 | none => simp [hq] at hs
 | some i =>
  have hi : i.size = sz := by simpa [hq] using hs
  simp [Builtin.copy_, run_underlying hu, Builtin.lenOf, Builtin.firstCells, sizeOf, typeInfo, hq, hi, hn, hl, hst]
theorem wp_copy_run {P : Program} {w : World} {o : Oper} {a : Act} {K : Act → World → Prop} {Q : Exit → Act → World → Prop} (d s : Operand) (dT sT : TypeId)
  (ho : o.op = .call { callee := .builtin .copy, args := #[d, s], argTypes := #[dT, sT] }) (vd vs : Value) (hd : a.eval d = vd) (hs : a.eval s = vs) (n : Int) (w' : World)
  (hrun : ∀ ty, (Builtin.copy_ #[dT, sT] ty #[vd, vs]).run P w = .ok (goInt n) w') (h : K (a.put o.dst (goInt n)) w') : Oper.wp P o a w K Q := by
 unfold Oper.wp
 simp [execOp, ho, resolve, invoke, builtin, hd, hs, hrun, Result.andThen]
 exact h
theorem own_setRow {w : World} {base : Nat} {e t : TypeId} {size : Nat} {v : Value} {n : Nat} {xs : List Value} {g : Nat} {cs X : Array Value} (h : w.ownsRow base e size v n xs) (hg : w.heap[g]? = some (.cells cs t (0, 0))) (ht : t ≠ e) : (w.setRow g X).ownsRow base e size v n xs := by
 refine ⟨h.1, ?_⟩
 rcases h.2 with hn | ⟨k, cap, cur, rfl, hbg, hgg, rest⟩
 ·
  exact .inl hn
 ·
  refine .inr ⟨k, cap, cur, rfl, hbg, (setRow_other w g k X (fun e => ?_)).trans hgg, rest⟩
  subst e
  rw [hg] at hgg
  cases hgg
  exact ht rfl
theorem own_but {w w' : World} {base : Nat} {e t : TypeId} {size : Nat} {v : Value} {n : Nat} {xs : List Value} {g : Nat} {cs : Array Value} (h : w.ownsRow base e size v n xs) (hg : w.heap[g]? = some (.cells cs t (0, 0))) (ht : t ≠ e) (hk : ∀ j o, j ≠ g → w.heap[j]? = some o → w'.heap[j]? = some o) : w'.ownsRow base e size v n xs := by
 refine ⟨h.1, ?_⟩
 rcases h.2 with hn | ⟨k, cap, cur, rfl, hbg, hgg, rest⟩
 ·
  exact .inl hn
 ·
  refine .inr ⟨k, cap, cur, rfl, hbg, hk k _ (fun e => ?_) hgg, rest⟩
  subst e
  rw [hg] at hgg
  cases hgg
  exact ht rfl
/-- The run of a slice from its second element on. -/
theorem slice1T (g m d : Nat) (h : 1 ≤ m) (hd : m ≤ d) : ∃ o1, (1 < d → o1 = 2) ∧ (d = 1 → o1 = 0) ∧ ∀ wx, (Instr.slice 133 (.slice (some ⟨g, 0, none⟩) m d) (some (.int .i64 1)) none none).run Try.prog wx = .ok (.slice (some ⟨g, o1, none⟩) (m - 1) (d - 1)) wx ∧ (Instr.sliceAt 133 (.slice (some ⟨g, 0, none⟩) m d) (some (.int .i64 1)) none none).run Try.prog wx = .ok (.slice (some ⟨g, o1, none⟩) (m - 1) (d - 1)) wx := by
 have he : Try.prog.elem 133 = 42 := by kernel_rfl
 have hu : Try.prog.underlying 133 = some (.slice (Try.prog.elem 133)) := by rw [he]; exact Try.underlying133
 refine ⟨if d = 1 then 0 else 2, fun hh => if_neg (by omega), fun hh => if_pos hh, fun wx => ?_⟩
 have hr : (Instr.slice 133 (.slice (some ⟨g, 0, none⟩) m d) (some (.int .i64 1)) none none).run Try.prog wx = .ok (.slice (some ⟨g, if d = 1 then 0 else 2, none⟩) (m - 1) (d - 1)) wx := by
  rw [run_slice_l wx 133 _ _ _ hu .i64 1 (by omega) (by omega), he, Try.sizeOf42]
  simp only [Result.andThen_ok, sliced]
  by_cases h1 : d = 1
  ·
   subst h1; simp
  ·
   simp [h1, Addr.add]
 exact ⟨hr, by rw [run_sliceAt_slice wx 133 _ _ _ _ hu]; exact hr⟩
theorem slice_hT (ad : Option Addr) (m d h : Nat) (hh : h ≤ d) (wx : World) : (Instr.slice 133 (.slice ad m d) none (some (.int .i64 (h : Int))) none).run Try.prog wx = .ok (.slice ad h d) wx ∧ (Instr.sliceAt 133 (.slice ad m d) none (some (.int .i64 (h : Int))) none).run Try.prog wx = .ok (.slice ad h d) wx := by
 have he : Try.prog.elem 133 = 42 := by kernel_rfl
 have hu : Try.prog.underlying 133 = some (.slice (Try.prog.elem 133)) := by rw [he]; exact Try.underlying133
 have hr : (Instr.slice 133 (.slice ad m d) none (some (.int .i64 (h : Int))) none).run Try.prog wx = .ok (.slice ad h d) wx := by
  rw [run_slice_h wx 133 _ _ _ hu .i64 h (by omega) (by omega), he, Try.sizeOf42]
  simp only [Result.andThen_ok, sliced]
  cases ad <;> simp [Addr.add]
 exact ⟨hr, by rw [run_sliceAt_slice wx 133 _ _ _ _ hu]; exact hr⟩
theorem split_at {α : Type} {l : List α} {k : Nat} {x : α} (h : l[k]? = some x) : l = l.take k ++ x :: l.drop (k + 1) := by
 rw [← drop_some h, List.take_append_drop]
theorem TRows.front {b0 : Nat} {W : World} {vs : List Td} {ts : List M.Tr} (h : TRows b0 W vs ts) {k : Nat} {v : Td} {t : M.Tr} (hv : vs[k]? = some v) (ht : ts[k]? = some t) : TRows b0 W (v :: (vs.take k ++ vs.drop (k + 1))) (t :: (ts.take k ++ ts.drop (k + 1))) := by
 have hl := h.1
 have hkv := (List.getElem?_eq_some_iff.1 hv).1
 have hkt := (List.getElem?_eq_some_iff.1 ht).1
 refine ⟨by simp only [List.length_cons, List.length_append, List.length_take, List.length_drop]; omega, fun j u y hu hy => ?_⟩
 cases j with
 | zero =>
  simp only [List.getElem?_cons_zero, Option.some.injEq] at hu hy
  subst hu hy
  exact h.2 k _ _ hv ht
 | succ j =>
  rw [List.getElem?_cons_succ] at hu hy
  rcases Nat.lt_or_ge j k with hj | hj
  ·
   rw [List.getElem?_append_left (by rw [List.length_take]; omega), List.getElem?_take, if_pos hj] at hu hy
   exact h.2 j _ _ hu hy
  ·
   rw [List.getElem?_append_right (by rw [List.length_take]; omega), List.length_take, Nat.min_eq_left (by omega), List.getElem?_drop] at hu hy
   exact h.2 _ _ _ hu hy
theorem front_cells {vs : List Td} {k : Nat} {v : Td} (hv : vs[k]? = some v) {L : List Value} (hL : L.take (vs.length * 2) = vs.flatMap thc) (hl : vs.length * 2 ≤ L.length) {o1 : Nat} (ho : 0 < k → o1 = 2) :
  (((L.take o1 ++ (vs.take k).flatMap thc ++ L.drop (o1 + ((vs.take k).flatMap thc).length)).set 0 (.int .i64 v.1)).set 1 (.slice v.2.1 v.2.2.1 v.2.2.2)).take (vs.length * 2) = (v :: (vs.take k ++ vs.drop (k + 1))).flatMap thc ∧ (L.take o1 ++ (vs.take k).flatMap thc ++ L.drop (o1 + ((vs.take k).flatMap thc).length)).length = L.length := by
 have hk := (List.getElem?_eq_some_iff.1 hv).1
 have hs := split_at hv
 have hA : ((vs.take k).flatMap thc).length = k * 2 := by rw [flat_len thc 2 _ (thc_len _), List.length_take, Nat.min_eq_left (by omega)]
 have hC : ((vs.drop (k + 1)).flatMap thc).length = (vs.length - (k + 1)) * 2 := by rw [flat_len thc 2 _ (thc_len _), List.length_drop]
 obtain ⟨R, hR⟩ : ∃ R, L = vs.flatMap thc ++ R := ⟨L.drop (vs.length * 2), by rw [← hL, List.take_append_drop]⟩
 have hV : vs.flatMap thc = (vs.take k).flatMap thc ++ (.int .i64 v.1 :: .slice v.2.1 v.2.2.1 v.2.2.2 :: (vs.drop (k + 1)).flatMap thc) := by
  conv => lhs; rw [hs]
  rw [List.flatMap_append, List.flatMap_cons]; rfl
 have hX : ∃ x y, L.take o1 ++ (vs.take k).flatMap thc ++ L.drop (o1 + ((vs.take k).flatMap thc).length) = x :: y :: ((vs.take k).flatMap thc ++ ((vs.drop (k + 1)).flatMap thc ++ R)) := by
  rcases Nat.eq_zero_or_pos k with h0 | h0
  ·
   subst h0
   simp only [List.take_zero, List.flatMap_nil, List.append_nil, List.length_nil, Nat.add_zero, List.take_append_drop, List.nil_append] at hV ⊢
   exact ⟨_, _, by rw [hR, hV]; rfl⟩
  ·
   rw [ho h0, hA]
   have h2 : ∃ x y, L.take 2 = [x, y] := by
    have : (L.take 2).length = 2 := by rw [List.length_take]; omega
    match L.take 2, this with
    | [x, y], _ => exact ⟨x, y, rfl⟩
   obtain ⟨x, y, h2⟩ := h2
   refine ⟨x, y, ?_⟩
   rw [h2, hR, hV]
   have : (((vs.take k).flatMap thc ++ (Value.int .i64 v.1 :: Value.slice v.2.1 v.2.2.1 v.2.2.2 :: (vs.drop (k + 1)).flatMap thc)) ++ R).drop (2 + k * 2) = (vs.drop (k + 1)).flatMap thc ++ R := by
    rw [List.append_assoc, show 2 + k * 2 = ((vs.take k).flatMap thc).length + 2 by rw [hA]; omega, List.drop_append]
    simp
   rw [this]; rfl
 obtain ⟨x, y, hX⟩ := hX
 have hlen : (L.take o1 ++ (vs.take k).flatMap thc ++ L.drop (o1 + ((vs.take k).flatMap thc).length)).length = L.length := by
  rw [hX, hR, hV]; simp; omega
 refine ⟨?_, hlen⟩
 rw [hX]
 simp only [List.set_cons_zero, List.set_cons_succ]
 rw [List.flatMap_cons, List.flatMap_append, ← List.append_assoc, ← List.append_assoc]
 have : (Value.int .i64 v.1 :: Value.slice v.2.1 v.2.2.1 v.2.2.2 :: ((vs.take k).flatMap thc ++ (vs.drop (k + 1)).flatMap thc ++ R)) = (thc v ++ (vs.take k).flatMap thc ++ (vs.drop (k + 1)).flatMap thc) ++ R := by simp [thc]
 rw [this]
 refine List.take_left' ?_
 simp only [List.length_append, hA, hC, thc, List.length_cons, List.length_nil]
 omega

/-- The truths and their rows in another order. -/
def Sim (vs : List Td) (ts : List M.Tr) (vs' : List Td) (ts' : List M.Tr) : Prop :=
 vs'.length = ts'.length ∧ ts'.Perm ts ∧ ∀ R : Td → M.Tr → Prop, (∀ (j : Nat) (v : Td) (t : M.Tr), vs[j]? = some v → ts[j]? = some t → R v t) → ∀ (j : Nat) (v : Td) (t : M.Tr), vs'[j]? = some v → ts'[j]? = some t → R v t
theorem Sim.refl {vs : List Td} {ts : List M.Tr} (h : vs.length = ts.length) : Sim vs ts vs ts := ⟨h, List.Perm.refl _, fun _ h => h⟩
theorem Sim.trans {vs vs' vs2 : List Td} {ts ts' ts2 : List M.Tr} (h : Sim vs ts vs' ts') (k : Sim vs' ts' vs2 ts2) : Sim vs ts vs2 ts2 := ⟨k.1, k.2.1.trans h.2.1, fun R hR => k.2.2 R (h.2.2 R hR)⟩
theorem Sim.rows {vs vs' : List Td} {ts ts' : List M.Tr} (h : Sim vs ts vs' ts') {b0 : Nat} {W : World} (hr : TRows b0 W vs ts) : TRows b0 W vs' ts' := ⟨h.1, h.2.2 (TRow b0 W) hr.2⟩
theorem Sim.front {vs : List Td} {ts : List M.Tr} (hl : vs.length = ts.length) {k : Nat} {v : Td} {t : M.Tr} (hv : vs[k]? = some v) (ht : ts[k]? = some t) : Sim vs ts (v :: (vs.take k ++ vs.drop (k + 1))) (t :: (ts.take k ++ ts.drop (k + 1))) := by
 have hkv := (List.getElem?_eq_some_iff.1 hv).1
 have hkt := (List.getElem?_eq_some_iff.1 ht).1
 refine ⟨by simp only [List.length_cons, List.length_append, List.length_take, List.length_drop]; omega, List.perm_middle.symm.trans (by rw [← split_at ht]), fun R hR j u y hu hy => ?_⟩
 cases j with
 | zero =>
  simp only [List.getElem?_cons_zero, Option.some.injEq] at hu hy
  subst hu hy
  exact hR k _ _ hv ht
 | succ j =>
  rw [List.getElem?_cons_succ] at hu hy
  rcases Nat.lt_or_ge j k with hj | hj
  ·
   rw [List.getElem?_append_left (by rw [List.length_take]; omega), List.getElem?_take, if_pos hj] at hu hy
   exact hR j _ _ hu hy
  ·
   rw [List.getElem?_append_right (by rw [List.length_take]; omega), List.length_take, Nat.min_eq_left (by omega), List.getElem?_drop] at hu hy
   exact hR _ _ _ hu hy

set_option maxRecDepth 100000 in
set_option maxHeartbeats 8000000 in
theorem keepsVs_c (f : M.Cf) (Aw At Ar : Option Addr) (nw cw nt ct nr cr : Nat) (Ts Ss : Option Addr) (ns cs ms ds p mb : Nat) (P : Option Addr) (pn pc : Nat) (plan : List Int) (b0 : Nat) (ts : List M.Tr) (ss : List (List Int)) (h0 : M.check f = 0) (hts : ∀ t ∈ ts, M.listed f t = true) (w : World) (hw : Wc w f Aw At Ar nw cw nt ct nr cr Ts Ss ns cs ms ds p mb b0 ts ss) (hp : Sl ics 1 w w.heap.size P pn pc plan) (vs : List Td) (hvo : w.ownsRow b0 42 2 (.slice Ts ns cs) ns (vs.flatMap thc)) (hvr : TRows 0 w vs ts) :
  Calls Try.prog 77 #[.pointer (some ⟨p, 0, none⟩), .slice P pn pc] w fun e w' => e = .returned (.bool (ts.all fun t => M.stays f t plan)) ∧ (∃ ts' vs', Sim vs ts vs' ts' ∧ w'.ownsRow b0 42 2 (.slice Ts ns cs) ns (vs'.flatMap thc) ∧ Wc w' f Aw At Ar nw cw nt ct nr cr Ts Ss ns cs ms ds p mb b0 ts' ss) ∧ Mt mb (Value.slice Ts ns cs).ownBlock w w' := by
 obtain ⟨k0, k1, k2, k3, k4, k5, k6, k7, k8, k9, k10, k11, k12⟩ := cells13 hw.hd
 obtain ⟨g0, hgl0, hm0⟩ := hw.mp
 have hml := hm0.lt
 have hn1 := hw.n1
 have hpw := heap_lt hw.hd
 have htl := hw.len
 have HKP := hid (fun (Tw : Option Addr) (tw twc : Nat) (t : M.Tr) (ht : t ∈ ts) W (hW : Wc W f Aw At Ar nw cw nt ct nr cr Ts Ss ns cs ms ds p mb b0 ts ss) h2 h3 => isKept_c f Aw At Ar nw cw nt ct nr cr Ts Ss ns cs ms ds p mb Tw tw twc t P pn pc plan b0 ts ss h0 (hts t ht) W hW h2 h3)
 have HTL := hid htl
 have HM0 := hid hm0
 have HWC := hid hw
 have HG0 := hid hgl0
 have HSZ := hid (show (Try.prog.info? 42).map (·.size) = some 2 by kernel_rfl)
 have HV0 := hid hvo
 have HR0 := hid hvr
 clear hw hm0 h0 hts htl hgl0 hvo hvr
 go_enter Try.func77, Try.ntmps77
 go_wp2_with fail
 go_loopw [12] (fun i wr => ∃ k : Nat, i = .int .i64 k ∧ k ≤ ns ∧ Mo mb w wr ∧ (∃ g', Loads f g' ∧ MapIs Try.prog 139 wr mb g') ∧ Hid ((ts.drop k).all (fun t => M.stays f t plan) = ts.all fun t => M.stays f t plan)) (fun i _ => ns - (intOf i).toNat)
 case atStart => exact ⟨0, rfl, by omega, Mo.refl _ _, ⟨g0, HG0.out, HM0.out⟩, hid rfl⟩
 case round =>
  obtain ⟨k, rfl, hk, hB, hmp, hall⟩ := hrel
  obtain ⟨WO, hWO⟩ : ∃ x, x = wr := ⟨_, rfl⟩
  subst hWO
  have HW1 := hid (HWC.out.mo hB hmp)
  have hBs := hB.size
  by_cases hlt : k < ns
  ·
   have huo := own_mo HV0.out HM0.out hB
   have hrs : TRows 0 WO vs ts := HR0.out.imp fun _ _ _ ho => own_mo ho HM0.out hB
   have hus := sl_own (enc := thc) (by decide) (thc_len vs) (by omega) huo
   obtain ⟨b, off, v, hTs, hb, hx, hd, hcc⟩ := hus.at_ (Below.refl _ _) hlt
   have e0 := hcc 0 _ rfl
   have e1 := hcc 1 _ rfl
   simp only [Nat.add_zero] at e0
   have hcap := hus.cap
   have htk : ts[k]? = some (ts[k]'(by rw [HTL.out]; exact hlt)) := List.getElem?_eq_getElem _
   generalize ts[k]'(by rw [HTL.out]; exact hlt) = t at htk
   have htm := List.mem_of_getElem? htk
   obtain ⟨r1, r2, r3⟩ := hrs.2 k v t hx htk
   have hE2 : Ev WO (WO.alloc (.cells #[.int .i64 v.1, .slice v.2.1 v.2.2.1 v.2.2.2] 42)) := Ev.alloc (Ev.refl _) _
   have hcon := HKP.out v.2.1 v.2.2.1 v.2.2.2 t htm _ (HW1.out.ev hE2) ((sl_own (enc := ics) (by decide) (ics_len _) (by omega) r2).ev hE2) ((hp.mo HM0.out hB (Nat.le_refl _) hB.size).ev hE2)
   rw [← r1] at hcon
   have HD2 := hid (show (ts.drop k).all (fun t => M.stays f t plan) = (M.stays f t plan && (ts.drop (k + 1)).all fun t => M.stays f t plan) by rw [drop_some htk, List.all_cons])
   have HTK := hid htk
   have hqb := (alloc1 WO (.cells #[.int .i64 v.1, .slice v.2.1 v.2.2.1 v.2.2.2] 42)).1
   have HQB := hid hqb
   have hmq : WO.heap.size ≠ mb := by
    obtain ⟨g1, _, hm1⟩ := hmp
    have := hm1.lt
    omega
   have hB2 := hid (hB.trans (Mo.ev hE2))
   have HUO := hid huo
   have HRS := hid hrs
   have HVK := hid hx
   clear hd hcc hus huo hrs r1 r2 htk hqb hx
   subst hTs
   cases hkv : M.stays f t plan with
   | true =>
    rw [hkv] at hcon HD2
    have HC := hid hcon
    clear hcon hkv
    go_wp2_with (go_at_call 106; refine HC.out.mono ?_; rintro e w3 ⟨rfl, hw3, hm3⟩)
    exact ⟨⟨k + 1, by go_num, by omega, hB2.out.trans hm3, hw3.mp, hid (by rw [← hall.out, HD2.out]; rfl)⟩, by simp [intOf]; omega⟩
   | false =>
    rw [hkv] at hcon HD2
    have HC := hid hcon
    have HAF := hid (show (ts.all fun t => M.stays f t plan) = false by rw [← hall.out, HD2.out]; rfl)
    clear hcon hkv hall HD2
    go_upto_region 5 with (go_at_call 106; refine HC.out.mono ?_; rintro e W4 ⟨rfl, hw3, hm3⟩)
    have HW4 := hid hw3
    have HM4 := hid hm3
    have hWO4 : Mo mb WO W4 := (Mo.ev hE2).trans hm3
    have HB4 := hid (hB2.out.trans hm3)
    obtain ⟨g1, hg1, hm1⟩ := hmp
    have hvo := own_mo HUO.out hm1 hWO4
    have hrw : TRows 0 W4 vs ts := HRS.out.imp fun _ _ _ ho => own_mo ho hm1 hWO4
    have hvl : vs.length = ns := by rw [hrw.1, HTL.out]
    have hvk := HVK.out
    obtain ⟨gx, cur, hTs, hbg, hgx, hcm, hcz, hct⟩ : ∃ gx cur, (some ⟨b, off, none⟩ : Option Addr) = some ⟨gx, 0, none⟩ ∧ b0 ≤ gx ∧ W4.heap[gx]? = some (.cells cur 42 (0, 0)) ∧ cs ≤ maxLen ∧ cur.size = cs * 2 ∧ cur.toList.take (ns * 2) = vs.flatMap thc := by
     rcases hvo.2 with ⟨hn, _⟩ | ⟨gx, cap, cur, hv, h1, h2, h3, h4, h5, h6⟩
     ·
      cases hn
     ·
      simp only [Value.slice.injEq, true_and] at hv
      obtain ⟨hv1, hv2⟩ := hv
      subst hv2
      exact ⟨gx, cur, hv1, h1, h2, h4, h5, h6⟩
    simp only [Option.some.injEq, Addr.mk.injEq, and_true] at hTs
    obtain ⟨hT1, hT2⟩ := hTs
    replace hT1 := hT1.symm
    subst hT1
    subst hT2
    have hgs : gx < w.heap.size := by
     obtain ⟨us, hu, _⟩ := HWC.out.tr
     rcases hu.2 with ⟨hn, _⟩ | ⟨g, _, _, hv, _, h2, _⟩
     ·
      cases hn
     ·
      simp only [Value.slice.injEq, Option.some.injEq, Addr.mk.injEq, true_and, and_true] at hv
      rw [hv.1]; exact heap_lt h2
    have hmg : gx ≠ mb := by
     obtain ⟨_, _, hm⟩ := hw3.mp
     exact map_ne hm hgx
    have hpm : p ≠ mb := by
     obtain ⟨_, _, hm⟩ := hw3.mp
     exact map_ne hm hw3.hd
    have hpg : p ≠ gx := by
     intro e
     have hh := hw3.hd
     rw [e, hgx] at hh
     simp at hh
    have hqg : WO.heap.size ≠ gx := by omega
    have hpq : p ≠ WO.heap.size := by omega
    have HQ4 := hid (show W4.heap[WO.heap.size]? = some (.cells #[.int .i64 v.1, .slice v.2.1 v.2.2.1 v.2.2.2] 42 (0, 0)) from hm3.heap HQB.out hmq)
    have hfl : ((vs.take k).flatMap thc).length = k * 2 := by rw [flat_len thc 2 _ (thc_len _), List.length_take, Nat.min_eq_left (by omega)]
    obtain ⟨o1, ho1, ho2, hsl⟩ := slice1T gx ns cs (by omega) (by omega)
    have hfit : o1 + ((vs.take k).flatMap thc).length ≤ cur.size := by rw [hfl, hcz]; omega
    have hcur : cur.toList.length = cs * 2 := by simpa using hcz
    have hfc := front_cells hvk (L := cur.toList) (by rw [hvl]; exact hct) (by rw [hvl, hcur]; omega) (o1 := o1) (fun hk0 => ho1 (by omega))
    have HSRC := hid (fun j u (hj : ((vs.take k).flatMap thc)[j]? = some u) => (show W4.drew.cell? ((⟨gx, 0, none⟩ : Addr).add j) = some u from by
     have hj2 : j < k * 2 := by rw [← hfl]; exact (List.getElem?_eq_some_iff.1 hj).1
     have hcj : cur.toList[j]? = some u := by
      have hpre : (vs.flatMap thc).take (k * 2) = (vs.take k).flatMap thc := by
       conv => lhs; rw [← List.take_append_drop k vs]
       rw [List.flatMap_append, List.take_left' hfl]
      rw [← hpre, List.getElem?_take, if_pos hj2, ← hct, List.getElem?_take, if_pos (by omega)] at hj
      exact hj
     exact news_in (w := W4.drew) hgx j u hcj))
    have HONE := hid (fun u (hu : u ∈ (vs.take k).flatMap thc) => (show u.oneCell' = true from by
     obtain ⟨y, _, hy⟩ := List.mem_flatMap.1 hu
     simp only [thc, List.mem_cons, List.not_mem_nil, or_false] at hy
     rcases hy with rfl | rfl <;> rfl))
    obtain ⟨y0, y1, y2, y3, y4, y5, y6, y7, y8, y9, y10, y11, y12⟩ := cells13 hw3.hd
    clear y0 y1 y2 y3 y4 y5 y6 y7 y8 y9 y11 y12
    obtain ⟨q0, q1⟩ := cells2 HQ4.out
    have hs1 := fun wx => (hsl wx).1
    have hs2 := fun wx => (slice_hT (some ⟨gx, 0, none⟩) ns cs k (by omega) wx).1
    have hmn : Nat.min k (ns - 1) = k := Nat.min_eq_left (by omega)
    have HGX := hid hgx
    have HLA := hid hfl
    have HFIT := hid hfit
    have HFC := hid hfc
    have HRW := hid hrw
    have HMN := hid hmn
    have HCZ := hid hcz
    have HCM := hid hcm
    have HBG := hid hbg
    have HVL := hid hvl
    have HMG := hid hmg
    have HPM := hid hpm
    have HPG := hid hpg
    have HQG := hid hqg
    have HW4 := hid hw3
    have HM4 := hid hm3
    clear hrw hvk hmn hgx hfl hfit hfc hct hsl hcz hcm hbg hw3 hm3 e0 e1 hvl hmg hpm hpg hqg hvo hm1
    refine wp_region_held_drew (S := fun w' => (∀ o, w'.cell? ⟨p, o, none⟩ = W4.cell? ⟨p, o, none⟩) ∧ (∀ o, w'.cell? ⟨WO.heap.size, o, none⟩ = W4.cell? ⟨WO.heap.size, o, none⟩)) (by kernel_rfl) (⟨fun o => rfl, fun o => rfl⟩) (fun hHeld => ?_)
    refine tkH 0 (some 22) ?_
    (try simp only [Act.put, sA, sB, sC])
    refine tkH 1 (some 23) ?_
    (try simp only [Act.put, sA, sB, sC])
    refine tkH 2 (some 24) ?_
    (try simp only [Act.put, sA, sB, sC])
    refine tkH 3 (some 25) ?_
    (try simp only [Act.put, sA, sB, sC])
    refine tkH 4 (some 26) ?_
    (try simp only [Act.put, sA, sB, sC])
    refine tkH 5 (some 27) ?_
    (try simp only [Act.put, sA, sB, sC])
    refine tkH 6 (some 28) ?_
    (try simp only [Act.put, sA, sB, sC])
    refine tkH 7 (some 29) ?_
    (try simp only [Act.put, sA, sB, sC])
    refine tkH 8 (some 30) ?_
    (try simp only [Act.put, sA, sB, sC])
    refine tkH 9 (some 31) ?_
    (try simp only [Act.put, sA, sB, sC])
    refine tkH 10 (some 32) ?_
    (try simp only [Act.put, sA, sB, sC])
    refine wpAnyH_one (i := 11) rfl (by kernel_rfl) (by rfl) (fun K hK => ?_)
    refine wp_copy_run (.tmp 26) (.tmp 32) 133 133 rfl _ _ rfl rfl k _ (fun ty => run_copy_rowN (W4.drew) 133 133 ty 42 2 gx o1 (ns - 1) (cs - 1) ⟨gx, 0, none⟩ k cs cur 42 ((vs.take k).flatMap thc) k Try.underlying133 HSZ.out HGX.out HMN.out HLA.out HSRC.out HFIT.out HONE.out) ?_
    generalize hX1 : World.setRow _ gx _ = X1
    have HX1 := hid (show X1.heap[gx]? = some (.cells (cur.toList.take o1 ++ (vs.take k).flatMap thc ++ cur.toList.drop (o1 + ((vs.take k).flatMap thc).length)).toArray 42 (0, 0)) from by rw [← hX1]; exact setRow_heap _ gx _ _ _ _ HGX.out)
    have HO1 := hid (fun j (hj : j ≠ gx) => (show X1.heap[j]? = W4.heap[j]? from by rw [← hX1]; exact setRow_other _ gx j _ hj))
    have HSZ1 := hid (show X1.heap.size = W4.heap.size ∧ X1.os = W4.os ∧ X1.tape = W4.tape ∧ X1.output = W4.output from by rw [← hX1]; exact ⟨by simp [World.setRow], rfl, rfl, rfl⟩)
    clear hX1
    refine hK.out _ _ (⟨fun o => World.cell?_of_block (w := W4) (HO1.out p HPG.out), fun o => World.cell?_of_block (w := W4) (HO1.out WO.heap.size HQG.out)⟩) (fun hHeld => ?_)
    clear hK K
    (try simp only [Act.put, List.setIfInBounds_toArray, List.set_cons_zero, List.set_cons_succ])
    refine wpAnyH_done (by kernel_rfl) ?_ _
    go_upto_region 6 with fail
    have hn0 : 0 < ns := by omega
    obtain ⟨a0, c0⟩ : ∃ a0, X1.cell? ⟨gx, 0, none⟩ = some a0 := ⟨_, (cell_in HX1.out 0).trans (Array.getElem?_eq_getElem (by simp only [List.size_toArray, HFC.out.2, hcur]; omega))⟩
    obtain ⟨a1, c1⟩ : ∃ a1, X1.cell? ⟨gx, 1, none⟩ = some a1 := ⟨_, (cell_in HX1.out 1).trans (Array.getElem?_eq_getElem (by simp only [List.size_toArray, HFC.out.2, hcur]; omega))⟩
    have fr0 := frozen_in HX1.out 0
    have fr1 := frozen_in HX1.out 1
    have sc1 := fun u => (cell_set_off (v := u) (w := X1.drew) HX1.out (show 1 ≠ 0 by decide)).trans c1
    have sf1 := fun u => frozen_in (set_heap_same (v := u) (w := X1.drew) (j := 0) HX1.out) 1
    refine wp_region_held_drew (S := fun w' => (∀ o, w'.cell? ⟨p, o, none⟩ = X1.cell? ⟨p, o, none⟩) ∧ (∀ o, w'.cell? ⟨WO.heap.size, o, none⟩ = X1.cell? ⟨WO.heap.size, o, none⟩)) (by kernel_rfl) (⟨fun o => rfl, fun o => rfl⟩) (fun hHeld => ?_)
    refine tkH 0 (some 34) ?_
    (try simp only [Act.put, sA, sB, sC])
    refine tkH 1 (some 35) ?_
    (try simp only [Act.put, sA, sB, sC])
    refine tkH 2 (some 36) ?_
    (try simp only [Act.put, sA, sB, sC])
    refine tkH 3 (some 37) ?_
    (try simp only [Act.put, sA, sB, sC])
    refine tkH 4 (some 38) ?_
    (try simp only [Act.put, sA, sB, sC])
    refine tkH 5 (some 39) ?_
    (try simp only [Act.put, sA, sB, sC])
    refine wpAnyH_one (i := 6) rfl (by kernel_rfl) (by rfl) (fun K hK => ?_)
    go_simp
    generalize hX2 : World.drew _ = X2
    have HX2 := hid (show X2.heap[gx]? = some (.cells ((((cur.toList.take o1 ++ (vs.take k).flatMap thc ++ cur.toList.drop (o1 + ((vs.take k).flatMap thc).length)).toArray).setIfInBounds 0 (.int .i64 v.1)).setIfInBounds 1 (.slice v.2.1 v.2.2.1 v.2.2.2)) 42 (0, 0)) from by rw [← hX2]; exact set_heap_same (set_heap_same HX1.out))
    have HO2 := hid (fun j (hj : j ≠ gx) => (show X2.heap[j]? = W4.heap[j]? from by rw [← hX2]; exact (Below.heap_setCell _ _ _ _ hj).trans ((Below.heap_setCell _ _ _ _ hj).trans (HO1.out j hj))))
    have hb2 : Go.RowKit.Below 0 X1 X2 := by
     rw [← hX2]
     exact (((Below.refl 0 X1).setCell (p := ⟨gx, 0, none⟩) (Nat.zero_le _) _).setCell (p := ⟨gx, 1, none⟩) (Nat.zero_le _) _).drew
    have hz := HSZ1.out
    have hzs := hb2.size
    have hkeep : ∀ j o, j ≠ gx → W4.heap[j]? = some o → X2.heap[j]? = some o := fun j o hj ho => (HO2.out j hj).trans ho
    have HMT := hid (((Mt.mo HB4.out).trans ⟨hb2.os.trans hz.2.1, hb2.tape.trans hz.2.2.1, hb2.output.trans hz.2.2.2, by omega, fun j _ _ h2 => HO2.out j (fun e => h2 (by rw [e]))⟩ : Mt mb (some gx) w X2))
    have HVN := hid (show X2.ownsRow b0 42 2 (.slice (some ⟨gx, 0, none⟩) ns cs) ns ((v :: (vs.take k ++ vs.drop (k + 1))).flatMap thc) from ⟨by rw [flat_len thc 2 _ (thc_len _)]; simp only [List.length_cons, List.length_append, List.length_take, List.length_drop, HVL.out]; omega, .inr ⟨gx, cs, _, rfl, HBG.out, HX2.out, by omega, HCM.out, by simp only [List.setIfInBounds_toArray, List.size_toArray, List.length_set, HFC.out.2]; exact hcur, by rw [← HVL.out]; simpa only [List.setIfInBounds_toArray] using HFC.out.1⟩⟩)
    have HWN := hid (show Wc X2 f Aw At Ar nw cw nt ct nr cr (some ⟨gx, 0, none⟩) Ss ns cs ms ds p mb b0 (t :: (ts.take k ++ ts.drop (k + 1))) ss from {
     hd := hkeep _ _ HPG.out HW4.out.hd
     fd := HW4.out.fd.keep ⟨hb2.os.trans hz.2.1, hb2.tape.trans hz.2.2.1, hb2.output.trans hz.2.2.2, by omega, fun j hj => HO2.out j (by have := HBG.out; omega)⟩
     tr := ⟨v :: (vs.take k ++ vs.drop (k + 1)), HVN.out, (HRW.out.front HVK.out HTK.out).imp fun _ _ _ ho => own_but ho HGX.out (by decide) hkeep⟩
     st := own_but HW4.out.st HGX.out (by decide) hkeep
     s10 := HW4.out.s10
     mp := by
      obtain ⟨g5, h5, h6⟩ := HW4.out.mp
      exact ⟨g5, h5, h6.same (HO2.out mb (fun e => HMG.out e.symm))⟩
     n1 := HW4.out.n1
     n2 := HW4.out.n2
     b1 := HW4.out.b1 })
    clear hX2 hb2 hz hzs hkeep
    refine hK.out _ _ (⟨fun o => World.cell?_of_block (w := X1) ((HO2.out p HPG.out).trans (HO1.out p HPG.out).symm), fun o => World.cell?_of_block (w := X1) ((HO2.out _ HQG.out).trans (HO1.out _ HQG.out).symm)⟩) (fun hHeld => ?_)
    clear hK K
    (try simp only [Act.put, List.setIfInBounds_toArray, List.set_cons_zero, List.set_cons_succ])
    refine wpAnyH_done (by kernel_rfl) ?_ _
    go_wp2_with fail
    go_ret
    exact ⟨ret_bool HAF.out.symm, ⟨t :: (ts.take k ++ ts.drop (k + 1)), v :: (vs.take k ++ vs.drop (k + 1)), Sim.front HRW.out.1 HVK.out HTK.out, HVN.out, HWN.out⟩, HMT.out⟩
  ·
   have H : ts.drop k = [] := List.drop_eq_nil_of_le (by rw [HTL.out]; omega)
   have HT := hid (show (ts.all fun t => M.stays f t plan) = true by rw [← hall.out, H]; rfl)
   clear hall H
   go_wp2
   go_ret
   exact ⟨ret_bool HT.out.symm, ⟨ts, vs, Sim.refl HR0.out.1, own_mo HV0.out HM0.out hB, HW1.out⟩, Mt.mo hB⟩

theorem keepsAlways_c (f : M.Cf) (Aw At Ar : Option Addr) (nw cw nt ct nr cr : Nat) (Ts Ss : Option Addr) (ns cs ms ds p mb : Nat) (P : Option Addr) (pn pc : Nat) (plan : List Int) (b0 : Nat) (ts : List M.Tr) (ss : List (List Int)) (h0 : M.check f = 0) (hts : ∀ t ∈ ts, M.listed f t = true) (w : World) (hw : Wc w f Aw At Ar nw cw nt ct nr cr Ts Ss ns cs ms ds p mb b0 ts ss) (hp : Sl ics 1 w w.heap.size P pn pc plan) :
  Calls Try.prog 77 #[.pointer (some ⟨p, 0, none⟩), .slice P pn pc] w fun e w' => e = .returned (.bool (ts.all fun t => M.stays f t plan)) ∧ (∃ ts', ts'.Perm ts ∧ Wc w' f Aw At Ar nw cw nt ct nr cr Ts Ss ns cs ms ds p mb b0 ts' ss) ∧ Mt mb (Value.slice Ts ns cs).ownBlock w w' := by
 obtain ⟨vs, hvo, hvr⟩ := hw.tr
 refine (keepsVs_c f Aw At Ar nw cw nt ct nr cr Ts Ss ns cs ms ds p mb P pn pc plan b0 ts ss h0 hts w hw hp vs hvo hvr).mono ?_
 rintro e w' ⟨h1, ⟨ts', vs', h2, _, h3⟩, h4⟩
 exact ⟨h1, ⟨ts', h2.2.1, h3⟩, h4⟩

end Go.Proofs.Ytgimcephbeajlaa
