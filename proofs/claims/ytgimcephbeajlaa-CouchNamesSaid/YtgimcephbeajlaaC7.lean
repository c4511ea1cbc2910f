import Derived.Test.YtgimcephbeajlaaC6
set_option linter.unusedSimpArgs false
set_option linter.unusedVariables false
namespace Go.Proofs.Ytgimcephbeajlaa
open Go.RowKit Go.Shelf
attribute [local go_sem] Oper.semAt_some

set_option maxRecDepth 100000 in
set_option maxHeartbeats 8000000 in
theorem truths_seq (n : Nat) (f : M.Cf) (Aw At Ar : Option Addr) (nw cw nt ct nr cr : Nat) (fp : Nat) (hv : M.valid f = true) (hl9 : f.last ≤ 9) (w0 : World) (hs : CS w0 w0.heap.size f Aw At Ar nw cw nt ct nr cr) (hfp : w0.heap[fp]? = some (.cells #[.int .i64 f.last, .int .i64 f.size, .int .i64 f.cool, .int .i64 f.die, .int .i64 f.burn, .int .i64 f.st.lo, .int .i64 f.st.hi, .slice Aw nw cw, .slice At nt ct, .slice Ar nr cr] 40 (0, 0))) :
  SeqY Fence.wide (n + 4) Try.prog 126 #[.pointer (some ⟨fp, 0, none⟩)] thHx (fun _ => False) (M.allTruths f) w0 := by
 intro l J Jx W hW hJ hJx hY h0
 have hdd : ∀ k : Nat, (Fence.wide.depth.isSome = true → 1 ≤ k) := fun k h => by cases h
 have hfW := (hW.block fp (heap_lt hfp)).trans hfp
 have hsW : CS W W.heap.size f Aw At Ar nw cw nt ct nr cr := hs.ev hW
 have hrb := M.ranges_bd hv
 obtain ⟨_, _, _, _, v1, v2, _⟩ := M.valid_parts hv
 have hnw : (nw : Int) = f.last + 1 := by have := hsW.w_.len; omega
 have hnw1 : 1 ≤ nw := by omega
 have hnw10 : nw ≤ 10 := by omega
 have hRG := fun W' (hE : Ev W W') => (callsIn_wide (n := n + 3)).2 (ranges_c f Aw At Ar nw cw nt ct nr cr (by omega) W' (hsW.ev hE))
 have hrl : (M.ranges f).length = nw + 1 := by have := hsW.w_.len; simp [M.ranges]; omega
 have hAT : M.allTruths f = (M.choices (M.parts f)).map M.cutAt := rfl
 have hPL : (M.parts f).length = nw + 1 := by rw [M.parts_len, hrl]
 have hPT : ∀ (k : Nat) (r : M.Rg), (M.ranges f)[k]? = some r → (M.parts f)[k]? = some (M.fromTo r.lo (r.hi - r.lo + 1).toNat) := fun k r h => by unfold M.parts; rw [List.getElem?_map, h]; rfl
 obtain ⟨N, hN⟩ : ∃ N, N = nw + 1 := ⟨_, rfl⟩
 rw [← hN] at hRG hrl hPL
 have hN20 : N ≤ 20 := by omega
 generalize M.ranges f = rs at hRG hrb hrl hPT
 generalize M.parts f = parts at hPL hPT hAT
 have HRG := hid hRG
 have HRB := hid hrb
 have HPT := hid hPT
 have HAT := hid hAT
 have HN2 := hid hN
 have HJ := hid hJ
 have HJX := hid hJx
 have HY := hid hY
 have H0 := hid h0
 have HFW := hid hfW
 have HPL := hid hPL
 clear hv hl9 hRG hrb hPT hAT hN hnw hsW hs hJ hJx hY h0 v1 v2 hPL
 refine callsIn_of_wp_marks Try.func126 rfl trivial ?_ rfl
 simp only [Try.ntmps126, List.size_toArray, List.length_cons, List.length_nil, Nat.reduceAdd, Nat.reduceSub, Array.replicate_succ, Array.replicate_zero, List.push_toArray, List.append_toArray, List.nil_append, List.cons_append]
 have hal := alloc1 W (.cells #[.func (.yield l) #[] #[]] 106)
 have HYB := hid hal.1
 obtain ⟨y0, y1, y2, y3, y4, y5, y6, y7, y8, y9⟩ := cells10 (heap_old (.cells #[.func (.yield l) #[] #[]] 106) hfW)
 clear hal hfW
 gi_wp2_with ((try refine ⟨trivial, ?_⟩); (try refine ⟨trivial, hdd _, ?_⟩); (try refine ⟨hdd _, ?_⟩); gi_at_call 101; with_reducible refine (HRG.out _ (Ev.alloc (Ev.refl _) _)).mono ?_; rintro e w1 ⟨⟨B0, d0, rfl, hr0⟩, hb1⟩; have HR0 := hid hr0; clear hr0)
 have hEW1 : Ev W w1 := Ev.trans (Ev.alloc (Ev.refl _) _) hb1
 have HY1 := hid (hb1.heap HYB.out)
 have hs1 := hEW1.size
 have hsl1 := HY1.out
 have hW1 : W.heap.size < w1.heap.size := heap_lt hsl1
 clear y0 y1 y2 y3 y4 y5 y6 y7 y8 y9
 clear hsl1
 obtain ⟨i0, hi0, hz0, hz1, hz2⟩ := info_parts info27
 have hr := HR0.out
 have rsm := hr.small
 gi_loopw [3, 10] (fun v i wr => ∃ k : Nat, ∃ V : Option Addr, ∃ ch : Nat, ∃ vs : List Hd, v = .slice V k ch ∧ i = .int .i64 k ∧ k ≤ N ∧ Ev w1 wr ∧ wr.ownsRow w1.heap.size 25 1 (.slice V k ch) k (vs.flatMap hdc) ∧ RowsB w1.heap.size wr vs (parts.take k)) (fun _ i _ => N - (intOf i).toNat)
 case atStart => exact ⟨0, none, 0, [], rfl, rfl, by omega, Ev.refl _, World.ownsRow_nil _ _ _ _, RowsB.nil _ _⟩
 case round =>
  obtain ⟨k, V, ch, vs, rfl, rfl, hk, hB, hown, hrow⟩ := hrel
  have hBs := hB.size
  by_cases hlt : k < N
  ·
   obtain ⟨b, off, r, rfl, hb, hx, hd, hc⟩ := hr.at_ hB hlt
   have e0 := hc 0 _ rfl
   have e1 := hc 1 _ rfl
   simp only [Nat.add_zero] at e0
   have hcap := hr.cap
   have hrbd := HRB.out r (List.mem_of_getElem? hx)
   have HTK := hid (show parts.take (k + 1) = parts.take k ++ [M.fromTo r.lo (r.hi - r.lo + 1).toNat] by rw [List.take_add_one, HPT.out k r hx]; rfl)
   obtain ⟨Nr, hNr⟩ : ∃ Nr : Nat, Nr = (r.hi - r.lo + 1).toNat := ⟨_, rfl⟩
   rw [← hNr] at HTK
   have HFT := hid (fun W' => (callsIn_wide (n := n + 3)).2 (fromTo_c r.lo r.hi Nr (by omega) (by omega) (by omega) W'))
   have hNr' : Nr ≤ 501 := by omega
   have k0 : (0 : Int) ≤ k := by omega
   have kN : (k : Int) < N := by omega
   have HOW := hid hown
   have HRW := hid hrow
   clear hx hd hc hNr hown hrow
   gi_wp2_with (first | (((try refine ⟨trivial, ?_⟩); (try refine ⟨trivial, hdd _, ?_⟩); (try refine ⟨hdd _, ?_⟩); gi_at_call 127; with_reducible refine (HFT.out _).mono ?_; rintro e w2 ⟨⟨B2, d2, rfl, hrow2⟩, hb2⟩; have hE2 : Ev wr w2 := Ev.trans (Ev.alloc (Ev.refl _) _) hb2; have HRO := hid hrow2; clear hrow2; have hs2 := hE2.size)) | (gi_at_builtin; refine wpListIn_append_own _ rfl (.tmp 14) (.tmp 20) 167 rfl w1.heap.size 25 i0 _ 1 24 Try.underlying167 hi0 hz0 hz1 hz2 rfl (by decide) _ k (vs.flatMap hdc) rfl ((HOW.out.ev hE2).alloc _) ⟨w2.heap.size, 0, none⟩ 1 1 [.slice B2 Nr d2] rfl rfl (news_in (alloc1 w2 _).1) (by simp [Value.oneCell']) (by unfold maxLen; omega) (by omega) (by simp; omega) ?_; intro v' w3 hown' hgrow _; obtain ⟨V3, cc3, rfl⟩ := own_form hown'; have HO3 := hid hown'; have HRX := RowsB.snoc (((HRW.out.ev hE2).ev (Ev.alloc (Ev.refl _) _)).grown ((HOW.out.ev hE2).alloc _) hgrow) (v := (B2, Nr, d2)) ((own_base (HRO.out.ev (Ev.alloc (Ev.refl _) _)) (by simp; omega)).kept hgrow (own_ne ((HOW.out.ev hE2).alloc _) (own_base (HRO.out.ev (Ev.alloc (Ev.refl _) (.cells #[.slice B2 Nr d2] 25))) (by simp; omega)) (by decide))) (show Nr ≤ 1000 by omega); have HR3 := hid (by rw [← HTK.out] at HRX; exact HRX); clear HRX; have HE3 := hid (Ev.grown ((hB.trans hE2).alloc (.cells #[.slice B2 Nr d2] 25)) hgrow (fun q e => by exact (HOW.out.lt q e).1) : Ev w1 w3); clear hown'))
   exact ⟨⟨k + 1, V3, cc3, vs ++ [(B2, Nr, d2)], rfl, by go_num, by omega, HE3.out, by rw [List.flatMap_append]; exact HO3.out, HR3.out⟩, by simp [intOf]; omega⟩
  ·
   obtain rfl : k = N := by omega
   rw [List.take_of_length_le (by rw [HPL.out]; exact Nat.le_refl _)] at hrow
   have HOW := hid hown
   have HRW := hid hrow
   have hVN := (sl_own (enc := hdc) (by decide) (hdc_len vs) (by omega) hown).cap
   clear hown hrow
   gi_wp2_with ((try refine ⟨trivial, ?_⟩); (try refine ⟨trivial, hdd _, ?_⟩); (try refine ⟨hdd _, ?_⟩); gi_at_call 128; with_reducible refine ((callsIn_wide (n := n + 3)).2 (choices_c V k ch _)).mono ?_; rintro e w5 ⟨rfl, hE5, hq5⟩)
   have hE15 : Ev w1 w5 := hB.trans hE5
   have hEW5 : Ev W w5 := hEW1.trans hE15
   have HYB5 := hid (hE15.heap HY1.out)
   have hH5 := HOW.out.ev hE5
   have hR5 := HRW.out.ev hE5
   have hPR := hR5.pr (by omega) hH5
   have hq5l := heap_lt hq5
   have h51 := hE15.size
   have hwbl : w1.heap.size ≤ wr.heap.size := hBs
   clear hH5 hR5
   refine rangeX (F := Fence.wide) (n := n + 4) rfl (by omega) (gf := 135) (lb := #[.pointer (some ⟨wr.heap.size, 0, none⟩)]) rfl trivial (fun args w => Try.call135 args w)
    (choices_seq Fence.wide rfl trivial trivial rfl (n + 3) wr.heap.size k ch V vs parts (by omega) hVN (fun j => w1.heap.size ≤ j ∧ j < w5.heap.size) ⟨by omega, hq5l⟩ w5 (fun j hj => hj.2) hq5 hPR) (Below.refl _ _) (fun j hj => hj.2) (fun _ => rfl) (fun A' B' x X Y h hk => incH_keep k A' B' x X Y h hk)
    (fun B pre X => J B (pre.map M.cutAt) X ∧ Hid (X.heap[W.heap.size]? = some (.cells #[.func (.yield l) #[] #[]] 106 (0, 0))))
    (fun B c pre X => c = .ret ∧ Jx B (pre.map M.cutAt) X)
    (fun B x a' X => a' = { tmps := #[.func (.yield l) #[] #[], .pointer (some ⟨fp, 0, none⟩), .pointer (some ⟨W.heap.size, 0, none⟩), .slice V k ch, undef, u5, .slice (some ⟨w5.heap.size + 2 + 1, 0, none⟩) k k, .agg #[.int .i64 f.last, .int .i64 f.size, .int .i64 f.cool, .int .i64 f.die, .int .i64 f.burn, .int .i64 f.st.lo, .int .i64 f.st.hi, .slice Aw nw cw, .slice At nt ct, .slice Ar nr cr], .slice B0 k d0, .int .i64 k, .int .i64 k, .bool false, u12, u13, u14, u15, u16, u17, u18, u19, u20, u21, u22, .slice V k ch, .func (.func 135) #[] #[.pointer (some ⟨wr.heap.size, 0, none⟩)], .slice (some ⟨w5.heap.size + 2 + 1, 0, none⟩) k k, undef, undef, undef, undef, undef, undef, undef, undef, undef, undef], defers := [] }) ?hI ?hIx (fun a' B s x y hB h hb => h) ?h0 ?assign ?body ?done ?stop
   case assign =>
    intro l' B pre x X K hB hBX hI _ hK
    unfold incE
    gi_wp2
    exact hK _ _ (Ev.refl _) rfl
   case hI =>
    rintro B s X Y hB ⟨h1, h2⟩ hb
    exact ⟨HJ.out B _ X Y (by omega) h1 (hb.wider (by omega)), hid ((hb.block _ (heap_lt h2.out) (by omega)).trans h2.out)⟩
   case hIx =>
    rintro c B s X Y hB ⟨h1, h2⟩ hb
    exact ⟨h1, HJX.out B _ X Y (by omega) h2 (hb.wider (by omega))⟩
   case h0 =>
    intro X hX
    exact ⟨H0.out X (hEW5.trans hX), hid (hX.heap HYB5.out)⟩
   case body =>
    rintro l' B pre x a' X hB hBX ⟨hJ, hYX⟩ rfl hh hpre
    have hxl := M.choices_len parts x (hpre.subset (by simp))
    have hlY := heap_lt hYX.out
    have hxlN : x.length = k := by rw [hxl, HPL.out]
    have hk1 : 1 ≤ k := by have := HN2.out; omega
    have hk3 : 1 < k := by have := HN2.out; omega
    have hk1i : (1 : Int) ≤ k := by omega
    have hkne : ¬ k = 1 := by omega
    have hsx := hh.2.keep (Below.refl _ X) hBX
    have hAB := hh.1
    obtain ⟨x0, xr, rfl⟩ : ∃ x0 xr, x = x0 :: xr := by
     cases x with
     | nil => simp at hxlN; omega
     | cons y t => exact ⟨y, t, rfl⟩
    have c3 : X.cell? ⟨w5.heap.size + 2 + 1, 0, none⟩ = some (.int .i64 x0) := by
     obtain ⟨b, off, hA, _, hcc⟩ := hsx.cells (by omega)
     simp only [Option.some.injEq, Addr.mk.injEq, and_true] at hA
     obtain ⟨rfl, rfl⟩ := hA
     simpa using hcc 0 x0 rfl 0 _ rfl
    have hlA := cell_lt c3
    have hsb := hsx.drop hk1
    rw [Nat.mul_one, Nat.zero_add, List.drop_succ_cons, List.drop_zero] at hsb
    have hcl2 := fun W' (hE : Ev X W') => CallsIn.inRound l' ((callsIn_wide (n := n + 1)).2 (cloneI_c (some ⟨w5.heap.size + 2 + 1, 1, none⟩) (k - 1) (k - 1) xr (by omega) W' (hsb.ev hE)))
    have HC2 := hid hcl2
    have HPX := hid hpre
    have HJX' := hid hJ
    have k0' : (0 : Int) < k := by omega
    have k0n : 0 < k := by omega
    have c1 := cell_in hYX.out 0
    simp only [List.getElem?_toArray, List.getElem?_cons_zero] at c1
    have HSE : Hid (∀ w', Ev X w' → (∀ o, w'.cell? ⟨W.heap.size, o, none⟩ = X.cell? ⟨W.heap.size, o, none⟩) ∧ (∀ o, w'.cell? ⟨w5.heap.size + 2 + 1, o, none⟩ = X.cell? ⟨w5.heap.size + 2 + 1, o, none⟩)) := hid (fun w' h => ⟨fun o => h.cells.1 _ o hlY, fun o => h.cells.1 _ o hlA⟩)
    clear hcl2 hh hpre hJ hxlN hxl hsb
    gi_wp2
    refine wp_region_R (l := l') (S := fun w' => (∀ o, w'.cell? ⟨W.heap.size, o, none⟩ = X.cell? ⟨W.heap.size, o, none⟩) ∧ (∀ o, w'.cell? ⟨w5.heap.size + 2 + 1, o, none⟩ = X.cell? ⟨w5.heap.size + 2 + 1, o, none⟩)) (by kernel_rfl) rfl (⟨fun o => rfl, fun o => rfl⟩) (fun hHeld => ?_)
    refine wpAnyR_takeD (i := 0) (v := ?_) (some 26) rfl rfl (by kernel_rfl) (by kernel_rfl) (by kernel_rfl) (fun _ _ _ h => h) (Or.inl ⟨by rfl, ?hy⟩) (by assumption) ?_
    case hy => (intro w hSw; (try dsimp only at hSw); go_simp; with_reducible rfl)
    (try simp only [Act.put, List.setIfInBounds_toArray, List.set_cons_zero, List.set_cons_succ])
    refine wpAnyR_takeD (i := 1) (v := ?_) (some 27) rfl rfl (by kernel_rfl) (by kernel_rfl) (by kernel_rfl) (fun _ _ _ h => h) (Or.inl ⟨by rfl, ?hy⟩) (by assumption) ?_
    case hy => (intro w hSw; (try dsimp only at hSw); go_simp; with_reducible rfl)
    (try simp only [Act.put, List.setIfInBounds_toArray, List.set_cons_zero, List.set_cons_succ])
    refine wpAnyR_takeD (i := 2) (v := ?_) (some 28) rfl rfl (by kernel_rfl) (by kernel_rfl) (by kernel_rfl) (fun _ _ _ h => h) (Or.inl ⟨by rfl, ?hy⟩) (by assumption) ?_
    case hy => (intro w hSw; (try dsimp only at hSw); go_simp; with_reducible rfl)
    (try simp only [Act.put, List.setIfInBounds_toArray, List.set_cons_zero, List.set_cons_succ])
    refine wpAnyR_takeD (i := 3) (v := ?_) (some 29) rfl rfl (by kernel_rfl) (by kernel_rfl) (by kernel_rfl) (fun _ _ _ h => h) (Or.inl ⟨by rfl, ?hy⟩) (by assumption) ?_
    case hy => (intro w hSw; (try dsimp only at hSw); go_simp; with_reducible rfl)
    (try simp only [Act.put, List.setIfInBounds_toArray, List.set_cons_zero, List.set_cons_succ])
    refine wpAnyR_takeD (i := 4) (v := ?_) (some 30) rfl rfl (by kernel_rfl) (by kernel_rfl) (by kernel_rfl) (fun _ _ _ h => h) (Or.inl ⟨by rfl, ?hy⟩) (by assumption) ?_
    case hy => (intro w hSw; (try dsimp only at hSw); go_simp; with_reducible rfl)
    (try simp only [Act.put, List.setIfInBounds_toArray, List.set_cons_zero, List.set_cons_succ])
    refine wpAnyR_takeD (i := 5) (v := ?_) (some 31) rfl rfl (by kernel_rfl) (by kernel_rfl) (by kernel_rfl) (fun _ _ _ h => h) (Or.inl ⟨by rfl, ?hy⟩) (by assumption) ?_
    case hy => (intro w hSw; (try dsimp only at hSw); go_simp; with_reducible rfl)
    (try simp only [Act.put, List.setIfInBounds_toArray, List.set_cons_zero, List.set_cons_succ])
    refine wpAnyR_one (i := 6) rfl (by kernel_rfl) (by rfl) (fun K hK => ?_)
    go_simp
    refine CallsIn.mono (HC2.out _ (Ev.drew (Ev.refl X))) ?_
    rintro e X2 ⟨⟨B2, d2, rfl, ho2⟩, hE2⟩
    have hX2 : Ev X X2 := (Ev.drew (Ev.refl X)).trans hE2
    have hs2 := own_base (b' := B) ho2 (show B ≤ X.drew.heap.size from hBX)
    clear ho2
    refine hK.out _ _ (HSE.out _ hX2) (fun hHeld => ?_)
    clear hK K
    (try simp only [Act.put, List.setIfInBounds_toArray, List.set_cons_zero, List.set_cons_succ])
    refine wpAnyR_takeD (i := 7) (v := ?_) (some 33) rfl rfl (by kernel_rfl) (by kernel_rfl) (by kernel_rfl) (fun _ _ _ h => h) (Or.inl ⟨by rfl, ?hy⟩) (by assumption) ?_
    case hy => (intro w hSw; (try dsimp only at hSw); go_simp; with_reducible rfl)
    (try simp only [Act.put, List.setIfInBounds_toArray, List.set_cons_zero, List.set_cons_succ])
    have hXs2 := hX2.size
    have hpre2 : pre.map M.cutAt ++ [M.cutAt (x0 :: xr)] <+: M.allTruths f := by
     rw [HAT.out]
     have := List.IsPrefix.map M.cutAt HPX.out
     simpa using this
    obtain ⟨fn, tm, asg, bd, hyy, hRR⟩ := yield_any rfl (n + 1) (HY.out B (pre.map M.cutAt) (M.cutAt (x0 :: xr)) #[.agg #[.int .i64 x0, .slice B2 (k - 1) d2]] X2 (by omega) (by omega) (HJ.out B _ X X2 (by omega) HJX'.out (Bar.ev hX2)) ⟨B2, d2, k - 1, rfl, hs2, by omega⟩ hpre2)
    have HRR := hid hRR
    have HS2 := hid hs2
    have HPR2 := hid hpre2
    clear hRR hs2 hpre2
    refine wpAnyR_one (i := 8) rfl (by kernel_rfl) (by rfl) (fun K hK => ?_)
    go_simp
    refine RoundIn.mono (roundIn_in l' HRR.out) ?_
    rintro e X3 (⟨rfl, hJ3, hK3⟩ | ⟨rfl, hx3, hK3⟩)
    ·
     have hC3 : ∀ j, W.heap.size ≤ j → j < B → j < X.heap.size → X3.heap[j]? = X.heap[j]? := fun j h1 h2 h3 => (hK3.block j (by omega) (.inr ⟨h1, h2⟩)).trans (hX2.block j h3)
     refine hK.out _ _ (⟨fun o => World.cell?_of_block (w := X) (hC3 W.heap.size (Nat.le_refl _) (by omega) hlY), fun o => World.cell?_of_block (w := X) (hC3 (w5.heap.size + 2 + 1) (by omega) (by omega) hlA)⟩) (fun hHeld => ?_)
     clear hK K
     (try simp only [Act.put, List.setIfInBounds_toArray, List.set_cons_zero, List.set_cons_succ])
     refine wpAnyR_takeD (i := 9) (v := ?_) (some 35) rfl rfl (by kernel_rfl) (by kernel_rfl) (by kernel_rfl) (fun _ _ _ h => h) (Or.inl ⟨by rfl, ?hy⟩) (by assumption) ?_
     case hy => (intro w hSw; (try dsimp only at hSw); go_simp; with_reducible rfl)
     (try simp only [Act.put, List.setIfInBounds_toArray, List.set_cons_zero, List.set_cons_succ])
     refine wpAnyR_done (by kernel_rfl) ?_ _
     gi_wp2
     refine ⟨⟨?_, fun j hj hor => ?_⟩, ?_, ?_⟩
     ·
      have := hK3.size; omega
     ·
      exact hC3 j (by omega) (by omega) hj
     ·
      rw [List.map_append]; exact hJ3
     ·
      exact hid ((hC3 W.heap.size (Nat.le_refl _) (by omega) hlY).trans hYX.out)
    ·
     have hC3 : ∀ j, W.heap.size ≤ j → j < B → j < X.heap.size → X3.heap[j]? = X.heap[j]? := fun j h1 h2 h3 => (hK3.block j (by omega) (.inr ⟨h1, h2⟩)).trans (hX2.block j h3)
     refine hK.out _ _ (⟨fun o => World.cell?_of_block (w := X) (hC3 W.heap.size (Nat.le_refl _) (by omega) hlY), fun o => World.cell?_of_block (w := X) (hC3 (w5.heap.size + 2 + 1) (by omega) (by omega) hlA)⟩) (fun hHeld => ?_)
     clear hK K
     (try simp only [Act.put, List.setIfInBounds_toArray, List.set_cons_zero, List.set_cons_succ])
     refine wpAnyR_takeD (i := 9) (v := ?_) (some 35) rfl rfl (by kernel_rfl) (by kernel_rfl) (by kernel_rfl) (fun _ _ _ h => h) (Or.inl ⟨by rfl, ?hy⟩) (by assumption) ?_
     case hy => (intro w hSw; (try dsimp only at hSw); go_simp; with_reducible rfl)
     (try simp only [Act.put, List.setIfInBounds_toArray, List.set_cons_zero, List.set_cons_succ])
     refine wpAnyR_done (by kernel_rfl) ?_ _
     gi_wp2
     refine ⟨⟨?_, fun j hj hor => ?_⟩, rfl, ?_⟩
     ·
      have := hK3.size; omega
     ·
      rcases hor with hf | hor
      ·
       exact hf.elim
      ·
       exact hC3 j (by omega) (by omega) hj
     ·
      rw [List.map_append]; exact hx3
   case done =>
    rintro B X hB ⟨hJ, hYX⟩ hD
    gi_wp2
    show LeavesInM Fence.wide (n + 4) Try.prog Try.f126 _ _ (marks [w5.heap.size]) .returning X
    refine leaves_marks (A := W.heap.size) [w5.heap.size] X (by simp) (fun E hE => ?_) (fun w' hb' hk' => ?_)
    ·
     rw [show E = w5.heap.size by simpa using hE]; exact ⟨by omega, hD⟩
    ·
     have hbar : Bar W.heap.size B X w' := ⟨hb'.os, hb'.tape, hb'.output, hb'.size, fun j hj hn => hk' j (fun hm => hn (by rw [show j = w5.heap.size by simpa using hm]; omega))⟩
     exact ⟨_, by simp [results, Try.results126, go_sem]; rfl, ⟨⟨_, rfl⟩, B, by omega, .inl (by rw [HAT.out]; exact HJ.out B _ X w' (by omega) hJ hbar)⟩⟩
   case stop =>
    rintro B ch' pre X hB hpre ⟨rfl, hx⟩ hD
    gi_wp2
    show LeavesInM Fence.wide (n + 4) Try.prog Try.f126 _ _ (marks [w5.heap.size]) .returning X
    refine leaves_marks (A := W.heap.size) [w5.heap.size] X (by simp) (fun E hE => ?_) (fun w' hb' hk' => ?_)
    ·
     rw [show E = w5.heap.size by simpa using hE]; exact ⟨by omega, hD⟩
    ·
     have hbar : Bar W.heap.size B X w' := ⟨hb'.os, hb'.tape, hb'.output, hb'.size, fun j hj hn => hk' j (fun hm => hn (by rw [show j = w5.heap.size by simpa using hm]; omega))⟩
     exact ⟨_, by simp [results, Try.results126, go_sem]; rfl, ⟨⟨_, rfl⟩, B, by omega, .inr ⟨_, by rw [HAT.out]; exact List.IsPrefix.map M.cutAt hpre, HJX.out B _ X w' (by omega) hx hbar⟩⟩⟩

end Go.Proofs.Ytgimcephbeajlaa
