import Derived.Test.YtgimcephbeajlaaC14
set_option linter.unusedSimpArgs false
set_option linter.unusedVariables false
namespace Go.Proofs.Ytgimcephbeajlaa
open Go.RowKit Go.Shelf

set_option maxRecDepth 100000 in
set_option maxHeartbeats 4000000 in
theorem some1_c (f : M.Cf) (Aw At Ar : Option Addr) (nw cw nt ct nr cr : Nat) (Ts Ss : Value) (m : Value) (p gq gw gf i : Nat) (pb : Int → Bool) (hi : i < 10) (hcf : ∀ args w, (callFunc gf args).run Try.prog w = .ok (.enter gf args) w) (hG : ∀ (x : Int) W, Calls Try.prog gf #[.agg #[.int .i64 f.last, .int .i64 f.size, .int .i64 f.cool, .int .i64 f.die, .int .i64 f.burn, .int .i64 f.st.lo, .int .i64 f.st.hi, .slice Aw nw cw, .slice At nt ct, .slice Ar nr cr], .int .i64 x] W fun e w' => e = .returned (.bool (pb x)) ∧ Ev W w')
  (x : List Int) (hx : x.length = 10) (w : World) (hw : w.heap[p]? = some (.cells #[.int .i64 f.last, .int .i64 f.size, .int .i64 f.cool, .int .i64 f.die, .int .i64 f.burn, .int .i64 f.st.lo, .int .i64 f.st.hi, .slice Aw nw cw, .slice At nt ct, .slice Ar nr cr, Ts, Ss, m] 136 (0, 0)))
  (q0 : w.cell? ⟨gq, 0, none⟩ = some (.int .i64 (i : Int))) (q1 : w.cell? ⟨gq, 1, none⟩ = some (.func (.func gf) #[] #[])) (c2 : w.cell? ⟨gw, 0, none⟩ = some (.pointer (some ⟨p, 0, none⟩))) :
  Calls Try.prog 125 #[sv x, .pointer (some ⟨gq, 0, none⟩), .pointer (some ⟨gw, 0, none⟩)] w fun e w' => e = .returned (.bool (pb (x.getD i 0))) ∧ Ev w w' := by
 obtain ⟨y0, y1, y2, y3, y4, y5, y6, y7, y8, y9, y10, y11, y12⟩ := cells13 hw
 have lq := cell_lt q0
 have lw := cell_lt c2
 have lp := heap_lt hw
 have HG := hid hG
 have hxi : x[i]? = some (x.getD i 0) := by
  rw [List.getD_eq_getElem?_getD]
  rw [List.getElem?_eq_getElem (by omega)]; rfl
 clear hG hw y10 y11 y12
 obtain ⟨a0, a1, a2, a3, a4, a5, a6, a7, a8, a9, rfl⟩ := list10 hx
 generalize ([a0, a1, a2, a3, a4, a5, a6, a7, a8, a9]).getD i 0 = xi at hxi
 simp only [sv, List.map_cons, List.map_nil]
 have hal := (alloc1 w (.cells #[.int .i64 a0, .int .i64 a1, .int .i64 a2, .int .i64 a3, .int .i64 a4, .int .i64 a5, .int .i64 a6, .int .i64 a7, .int .i64 a8, .int .i64 a9] 109)).1
 have hcx := cell_in hal i
 have hxi2 : (#[.int .i64 a0, .int .i64 a1, .int .i64 a2, .int .i64 a3, .int .i64 a4, .int .i64 a5, .int .i64 a6, .int .i64 a7, .int .i64 a8, .int .i64 a9] : Array Value)[i]? = some (.int .i64 xi) := by
  have : ([a0, a1, a2, a3, a4, a5, a6, a7, a8, a9].map (Value.int .i64))[i]? = some (.int .i64 xi) := by rw [List.getElem?_map, hxi]; rfl
  simpa using this
 rw [hxi2] at hcx
 have i0 : (0 : Int) ≤ i := by omega
 have i9 : (i : Int) < 10 := by omega
 have hE0 : Ev w (w.alloc (.cells #[.int .i64 a0, .int .i64 a1, .int .i64 a2, .int .i64 a3, .int .i64 a4, .int .i64 a5, .int .i64 a6, .int .i64 a7, .int .i64 a8, .int .i64 a9] 109)) := Ev.alloc (Ev.refl _) _
 clear hxi hxi2 hal hx
 go_enter Try.func125, Try.ntmps125
 go_upto_region 1 with fail
 generalize hW0 : World.alloc w _ = W0 at hE0 hcx
 have HLW := hid (show w.heap.size < W0.heap.size by rw [← hW0]; simp)
 have Q0 := (hE0.cells.1 _ _ lq).trans q0
 have Q1 := (hE0.cells.1 _ _ lq).trans q1
 have C2 := (hE0.cells.1 _ _ lw).trans c2
 have Y0 := (hE0.cells.1 _ _ lp).trans y0
 have Y1 := (hE0.cells.1 _ _ lp).trans y1
 have Y2 := (hE0.cells.1 _ _ lp).trans y2
 have Y3 := (hE0.cells.1 _ _ lp).trans y3
 have Y4 := (hE0.cells.1 _ _ lp).trans y4
 have Y5 := (hE0.cells.1 _ _ lp).trans y5
 have Y6 := (hE0.cells.1 _ _ lp).trans y6
 have Y7 := (hE0.cells.1 _ _ lp).trans y7
 have Y8 := (hE0.cells.1 _ _ lp).trans y8
 have Y9 := (hE0.cells.1 _ _ lp).trans y9
 clear y0 y1 y2 y3 y4 y5 y6 y7 y8 y9 q0 q1 c2
 have HSE : Hid (∀ w', Ev W0 w' → (∀ o, w'.cell? ⟨gq, o, none⟩ = W0.cell? ⟨gq, o, none⟩) ∧ (∀ o, w'.cell? ⟨gw, o, none⟩ = W0.cell? ⟨gw, o, none⟩) ∧ (∀ o, w'.cell? ⟨p, o, none⟩ = W0.cell? ⟨p, o, none⟩) ∧ (∀ o, w'.cell? ⟨w.heap.size, o, none⟩ = W0.cell? ⟨w.heap.size, o, none⟩)) := hid (fun w' h => ⟨fun o => h.cells.1 _ o (Nat.lt_of_lt_of_le lq hE0.size), fun o => h.cells.1 _ o (Nat.lt_of_lt_of_le lw hE0.size), fun o => h.cells.1 _ o (Nat.lt_of_lt_of_le lp hE0.size), fun o => h.cells.1 _ o HLW.out⟩)
 refine wp_region_held_drew (S := fun w' => (∀ o, w'.cell? ⟨gq, o, none⟩ = W0.cell? ⟨gq, o, none⟩) ∧ (∀ o, w'.cell? ⟨gw, o, none⟩ = W0.cell? ⟨gw, o, none⟩) ∧ (∀ o, w'.cell? ⟨p, o, none⟩ = W0.cell? ⟨p, o, none⟩) ∧ (∀ o, w'.cell? ⟨w.heap.size, o, none⟩ = W0.cell? ⟨w.heap.size, o, none⟩)) (by kernel_rfl) (⟨fun o => rfl, fun o => rfl, fun o => rfl, fun o => rfl⟩) (fun hHeld => ?_)
 refine tkH 0 (some 5) ?_
 (try simp only [Act.put, sA, sB, sC])
 refine tkH 1 (some 6) ?_
 (try simp only [Act.put, sA, sB, sC])
 refine tkH 2 (some 7) ?_
 (try simp only [Act.put, sA, sB, sC])
 refine tkH 3 (some 8) ?_
 (try simp only [Act.put, sA, sB, sC])
 refine tkH 4 (some 9) ?_
 (try simp only [Act.put, sA, sB, sC])
 refine tkH 5 (some 10) ?_
 (try simp only [Act.put, sA, sB, sC])
 refine tkH 6 (some 11) ?_
 (try simp only [Act.put, sA, sB, sC])
 refine tkH 7 (some 12) ?_
 (try simp only [Act.put, sA, sB, sC])
 refine tkH 8 (some 13) ?_
 (try simp only [Act.put, sA, sB, sC])
 refine tkH 9 (some 14) ?_
 (try simp only [Act.put, sA, sB, sC])
 refine wpAnyH_one (i := 10) rfl (by kernel_rfl) (by rfl) (fun K hK => ?_)
 go_simp
 refine (HG.out _ _).mono ?_
 rintro e w4 ⟨rfl, hb4⟩
 have hE4 : Ev w w4 := hE0.trans (Ev.trans (Ev.drew (Ev.refl _)) hb4)
 refine hK.out _ _ (HSE.out _ (Ev.trans (Ev.drew (Ev.refl _)) hb4)) (fun hHeld => ?_)
 clear hK K
 (try simp only [Act.put, List.setIfInBounds_toArray, List.set_cons_zero, List.set_cons_succ])
 refine tkH 11 (some 4) ?_
 (try simp only [Act.put, sA, sB, sC])
 refine wpAnyH_done (by kernel_rfl) ?_ _
 go_wp2_with fail
 go_ret
 exact ⟨rfl, hE4⟩

set_option maxRecDepth 100000 in
set_option maxHeartbeats 2000000 in
theorem some_c (f : M.Cf) (Aw At Ar : Option Addr) (nw cw nt ct nr cr : Nat) (Ts Ss : Value) (m : Value) (p gf i : Nat) (pb : Int → Bool) (hi : i < 10) (hcf : ∀ args w, (callFunc gf args).run Try.prog w = .ok (.enter gf args) w) (hG : ∀ (x : Int) W, Calls Try.prog gf #[.agg #[.int .i64 f.last, .int .i64 f.size, .int .i64 f.cool, .int .i64 f.die, .int .i64 f.burn, .int .i64 f.st.lo, .int .i64 f.st.hi, .slice Aw nw cw, .slice At nt ct, .slice Ar nr cr], .int .i64 x] W fun e w' => e = .returned (.bool (pb x)) ∧ Ev W w')
  (B : Option Addr) (n d : Nat) (xs : List (List Int)) (hx : ∀ x ∈ xs, x.length = 10) (w : World) (hw : w.heap[p]? = some (.cells #[.int .i64 f.last, .int .i64 f.size, .int .i64 f.cool, .int .i64 f.die, .int .i64 f.burn, .int .i64 f.st.lo, .int .i64 f.st.hi, .slice Aw nw cw, .slice At nt ct, .slice Ar nr cr, Ts, Ss, m] 136 (0, 0))) (hs : Sl scs 10 w w.heap.size B n d xs) :
  Calls Try.prog 109 #[.pointer (some ⟨p, 0, none⟩), .slice B n d, .agg #[.int .i64 (i : Int), (.func (.func gf) #[] #[])]] w fun e w' => e = .returned (.bool (xs.any fun x => pb (x.getD i 0))) ∧ Ev w w' := by
 have hE : Ev w ((w.alloc (.cells #[.pointer (some ⟨p, 0, none⟩)] 110)).alloc (.cells #[.int .i64 (i : Int), (.func (.func gf) #[] #[])] 149)) := (Ev.alloc (Ev.alloc (Ev.refl _) _) _)
 have hal := alloc2 w (.cells #[.pointer (some ⟨p, 0, none⟩)] 110) (.cells #[.int .i64 (i : Int), (.func (.func gf) #[] #[])] 149)
 have c2 := cell_in hal.1 0
 have q0 := cell_in hal.2.1 0
 have q1 := cell_in hal.2.1 1
 simp only [List.getElem?_toArray, List.getElem?_cons_zero, List.getElem?_cons_succ] at c2 q0 q1
 have HCF := hid (confnW_c B n d 125 [.pointer (some ⟨w.heap.size + 1, 0, none⟩), .pointer (some ⟨w.heap.size, 0, none⟩)] (fun x => pb (x.getD i 0)) xs hx _ (hs.ev hE) (fun args w => Try.call125 args w)
  (fun x W hx1 hE1 => some1_c f Aw At Ar nw cw nt ct nr cr Ts Ss m p (w.heap.size + 1) w.heap.size gf i pb hi hcf hG x hx1 W ((hE.trans hE1).heap hw) ((hE1.cells.1 _ _ (cell_lt q0)).trans q0) ((hE1.cells.1 _ _ (cell_lt q1)).trans q1) ((hE1.cells.1 _ _ (cell_lt c2)).trans c2)))
 have HE := hid hE
 clear hal c2 q0 q1 hE hG hw hs
 go_enter Try.func109, Try.ntmps109
 go_wp2_with (go_at_call 111; with_reducible refine HCF.out.mono ?_; rintro e w1 ⟨rfl, hb1⟩)
 go_ret
 exact ⟨rfl, HE.out.trans hb1⟩

/-- In some truth the heap burns, or dies, at this hour; the first such hour. -/
def M.burnsAt (f : M.Cf) (ts : List M.Tr) (plan : List Int) (i : Nat) : Bool := (ts.map fun t => M.heats f t plan).any fun x => decide (f.burn < x.getD i 0)
def M.diesAt (f : M.Cf) (ts : List M.Tr) (plan : List Int) (i : Nat) : Bool := (ts.map fun t => M.heats f t plan).any fun x => decide (x.getD i 0 < f.die)
def M.seek (q : Nat → Bool) : Nat → Nat → Option Nat
 | 0, _ => none
 | n + 1, k => if q k then some k else M.seek q n (k + 1)
def M.fear (f : M.Cf) (ts : List M.Tr) (plan : List Int) : Option Nat := M.seek (fun i => M.burnsAt f ts plan i || M.diesAt f ts plan i) f.wet.length 0
/-- What fear returns. -/
def M.fearV (f : M.Cf) (ts : List M.Tr) (plan : List Int) : Value := match M.fear f ts plan with
 | some i => .tuple #[.agg #[.int .i64 (i : Int), .bool (M.burnsAt f ts plan i), .bool (M.diesAt f ts plan i)], .bool true]
 | none => .tuple #[.agg #[.int .i64 0, .bool false, .bool false], .bool false]
theorem Mo.own {g : Nat} {a b : World} (h : Mo g a b) (j : Nat) (v : Value) : Mo g a (b.setCell ⟨g, j, none⟩ v) :=
 ⟨(show b.os = a.os from World.grownBy.os h), (show b.tape = a.tape from World.grownBy.tape h), (show b.output = a.output from World.grownBy.output h), by simpa [World.setCell] using h.size, fun k hk hn => (Below.heap_setCell _ _ _ _ (fun e => hn (by rw [e]))).trans (World.grownBy.block h k hk hn)⟩
theorem own_off {w w' : World} {base : Nat} {e : TypeId} {size : Nat} {v : Value} {n : Nat} {xs : List Value} {g : Nat} (h : w.ownsRow base e size v n xs) (hm : Mo g w w') (hg : g < base) : w'.ownsRow base e size v n xs := by
 refine ⟨h.1, ?_⟩
 rcases h.2 with hn | ⟨k, cap, cur, rfl, hbg, hgg, rest⟩
 ·
  exact .inl hn
 ·
  exact .inr ⟨k, cap, cur, rfl, hbg, hm.heap hgg (by omega), rest⟩

set_option maxRecDepth 100000 in
set_option maxHeartbeats 4000000 in
theorem fear_c (f : M.Cf) (Aw At Ar : Option Addr) (nw cw nt ct nr cr : Nat) (Ts Ss : Option Addr) (ns cs ms ds p mb : Nat) (P : Option Addr) (pn pc : Nat) (plan : List Int) (b0 : Nat) (ts : List M.Tr) (ss : List (List Int)) (h0 : M.check f = 0) (hts : ∀ t ∈ ts, M.listed f t = true) (w : World) (hw : Wc w f Aw At Ar nw cw nt ct nr cr Ts Ss ns cs ms ds p mb b0 ts ss) (hp : Sl ics 1 w w.heap.size P pn pc plan) :
  Calls Try.prog 79 #[.pointer (some ⟨p, 0, none⟩), .slice P pn pc] w fun e w' => e = .returned (M.fearV f ts plan) ∧ Mo mb w w' := by
 obtain ⟨W0, hW0⟩ : ∃ x, x = w.alloc (.cells #[.int .i64 0, .bool false, .bool false] 64) := ⟨_, rfl⟩
 have hE0 : Ev w W0 := by rw [hW0]; exact Ev.alloc (Ev.refl _) _
 have hal := alloc1 w (.cells #[.int .i64 0, .bool false, .bool false] 64)
 rw [← hW0] at hal
 have HPL := hid (plays_c f Aw At Ar nw cw nt ct nr cr Ts Ss ns cs ms ds p mb P pn pc plan b0 ts ss h0 hts W0 (hw.ev hE0) (hp.ev hE0))
 have hml : mb < w.heap.size := by obtain ⟨_, _, hm⟩ := hw.mp; exact hm.lt
 have hpl := heap_lt hw.hd
 have hn1 := hw.n1
 have hvp := M.valid_parts (M.check0 h0).2.2.1
 have hnw : (nw : Int) = f.last + 1 := by have := hw.fd.w_.len; omega
 have hwl : f.wet.length = nw := hw.fd.w_.len
 have hl9 := (M.check0 h0).1
 have hnw10 : nw ≤ 10 := by omega
 have s0 : IntKind.i64.wrap (f.last + 1) = (nw : Int) := by rw [← hnw]; exact IntWalk.i64_in _ (by omega)
 have hln : ∀ x ∈ (ts.map fun t => M.heats f t plan), x.length = 10 := fun x hx => by
  obtain ⟨t, ht, rfl⟩ := List.mem_map.1 hx
  have h1 := M.listed_bd (M.check0 h0).2.2.1 (hts t ht)
  exact M.heats_len (by omega)
 have HLN := hid hln
 have HFD := hid (show M.fearV f ts plan = match M.seek (fun i => M.burnsAt f ts plan i || M.diesAt f ts plan i) nw 0 with
  | some i => .tuple #[.agg #[.int .i64 (i : Int), .bool (M.burnsAt f ts plan i), .bool (M.diesAt f ts plan i)], .bool true]
  | none => .tuple #[.agg #[.int .i64 0, .bool false, .bool false], .bool false] by unfold M.fearV M.fear; rw [hwl])
 have HAL := hid hal.1
 have hz := hal.2
 have HME := hid hE0
 clear hw hp h0 hts hln hal hwl hE0
 go_enter Try.func79, Try.ntmps79
 go_upto_region 2 with (go_at_call 102; rw [← hW0]; refine HPL.out.mono ?_; rintro e w1 ⟨⟨B, dB, rfl, hrow⟩, hw1, hm1⟩)
 have hd1 := hm1.heap HAL.out (show w.heap.size ≠ mb by omega)
 obtain ⟨y0, y1, y2, y3, y4, y5, y6, y7, y8, y9, y10, y11, y12⟩ := cells13 hw1.hd
 have HD1 := hid hd1
 have HH1 := hid hw1.hd
 have HRW := hid hrow
 have HMW := hid (show Mo mb w w1 from (Mo.ev HME.out).trans hm1)
 have hs1 := hm1.size
 have HMF := hid (fun W (h : Mo w.heap.size w1 W) => (show Mo mb w W from ⟨(World.grownBy.os h).trans (World.grownBy.os HMW.out), (World.grownBy.tape h).trans (World.grownBy.tape HMW.out), (World.grownBy.output h).trans (World.grownBy.output HMW.out), Nat.le_trans HMW.out.size h.size, fun j hj hn => (World.grownBy.block h j (by omega) (by simp; omega)).trans (World.grownBy.block HMW.out j hj hn)⟩))
 clear y1 y2 y3 y4 y5 y6 y7 y8 y9 y10 y11 y12 hd1 hw1 hm1 hrow
 go_wp2_with fail
 go_loopw [19] (fun i wr => ∃ k : Nat, i = .int .i64 k ∧ k ≤ nw ∧ Mo w.heap.size w1 wr ∧ (∃ z0 z1 z2, wr.heap[w.heap.size]? = some (.cells #[z0, z1, z2] 64 (0, 0))) ∧ Hid (M.seek (fun i => M.burnsAt f ts plan i || M.diesAt f ts plan i) (nw - k) k = M.seek (fun i => M.burnsAt f ts plan i || M.diesAt f ts plan i) nw 0)) (fun i _ => nw - (intOf i).toNat)
 case atStart => exact ⟨0, rfl, by omega, Mo.refl _ _, ⟨_, _, _, HD1.out⟩, hid rfl⟩
 case round =>
  obtain ⟨k, rfl, hk, hB, ⟨z0, z1, z2, hzd⟩, hsk⟩ := hrel
  obtain ⟨WO, hWO⟩ : ∃ x, x = wr := ⟨_, rfl⟩
  subst hWO
  have hBs := hB.size
  by_cases hlt : k < nw
  ·
   have HSK := hid (show M.seek (fun i => M.burnsAt f ts plan i || M.diesAt f ts plan i) (nw - k) k = if (M.burnsAt f ts plan k || M.diesAt f ts plan k) then some k else M.seek (fun i => M.burnsAt f ts plan i || M.diesAt f ts plan i) (nw - (k + 1)) (k + 1) by rw [show nw - k = (nw - (k + 1)) + 1 by omega]; rfl)
   have hr5 := own_off HRW.out hB (show w.heap.size < W0.heap.size by omega)
   have hh5 := hB.heap HH1.out (show p ≠ w.heap.size by omega)
   have HBD := hid (show M.burnsAt f ts plan k = ((ts.map fun t => M.heats f t plan).any fun x => decide (f.burn < x.getD k 0)) from rfl)
   have HDD := hid (show M.diesAt f ts plan k = ((ts.map fun t => M.heats f t plan).any fun x => decide (x.getD k 0 < f.die)) from rfl)
   have hsl := sl_own (enc := scs) (by decide) (fun x hx => by simp [scs, HLN.out x hx]) (by omega) hr5
   have HZD := hid hzd
   have HHB := hid (fun W (hE : Ev WO W) => some_c f Aw At Ar nw cw nt ct nr cr (.slice Ts ns cs) (.slice Ss ms ds) (.map (some mb)) p 107 k (fun x => decide (f.burn < x)) (by omega) (fun args w => Try.call107 args w) (fun x W => burns_c f Aw At Ar nw cw nt ct nr cr x W) B ns dB _ HLN.out W (hE.heap hh5) (hsl.ev hE))
   have HHD := hid (fun W (hE : Ev WO W) => some_c f Aw At Ar nw cw nt ct nr cr (.slice Ts ns cs) (.slice Ss ms ds) (.map (some mb)) p 108 k (fun x => decide (x < f.die)) (by omega) (fun args w => Try.call108 args w) (fun x W => dies_c f Aw At Ar nw cw nt ct nr cr x W) B ns dB _ HLN.out W (hE.heap hh5) (hsl.ev hE))
   rw [← HBD.out] at HHB
   rw [← HDD.out] at HHD
   clear hr5 hh5 hsl hzd HBD HDD
   go_upto_region 6 with fail
   generalize hW5 : World.alloc (World.alloc WO _) _ = W5
   have hE5 : Ev WO W5 := by rw [← hW5]; exact Ev.alloc (Ev.alloc (Ev.refl _) _) _
   have hal5 := alloc2 WO (.cells #[.int .i64 (k : Int), .func (.func 107) #[] #[]] 149) (.cells #[.int .i64 (k : Int), .func (.func 108) #[] #[]] 149)
   rw [hW5] at hal5
   obtain ⟨x0, x1⟩ := cells2 hal5.1
   obtain ⟨x2, x3⟩ := cells2 hal5.2.1
   have lq1 := heap_lt hal5.1
   have lq2 := heap_lt hal5.2.1
   have HD5 := hid (hE5.heap HZD.out)
   have hgd := heap_lt HZD.out
   have HSB := hid (fun W (hE : Ev W5 W) => HHB.out W (hE5.trans hE))
   have HSD := hid (fun W (hE : Ev W5 W) => HHD.out W (hE5.trans hE))
   have HE5 := hid hE5
   clear hal5 hW5 HHB HHD hE5
   have HSE : Hid (∀ w', Ev W5 w' → (∀ o, w'.cell? ⟨WO.heap.size, o, none⟩ = W5.cell? ⟨WO.heap.size, o, none⟩) ∧ (∀ o, w'.cell? ⟨(WO.heap.size + 1), o, none⟩ = W5.cell? ⟨(WO.heap.size + 1), o, none⟩)) := hid (fun w' h => ⟨fun o => h.cells.1 _ o lq1, fun o => h.cells.1 _ o lq2⟩)
   refine wp_region_held_drew (S := fun w' => (∀ o, w'.cell? ⟨WO.heap.size, o, none⟩ = W5.cell? ⟨WO.heap.size, o, none⟩) ∧ (∀ o, w'.cell? ⟨(WO.heap.size + 1), o, none⟩ = W5.cell? ⟨(WO.heap.size + 1), o, none⟩)) (by kernel_rfl) (⟨fun o => rfl, fun o => rfl⟩) (fun hHeld => ?_)
   refine tkH 0 (some 26) ?_
   (try simp only [Act.put, sA, sB, sC])
   refine tkH 1 (some 27) ?_
   (try simp only [Act.put, sA, sB, sC])
   refine tkH 2 (some 28) ?_
   (try simp only [Act.put, sA, sB, sC])
   refine tkH 3 (some 29) ?_
   (try simp only [Act.put, sA, sB, sC])
   refine tkH 5 (some 31) ?_
   (try simp only [Act.put, sA, sB, sC])
   refine tkH 6 (some 32) ?_
   (try simp only [Act.put, sA, sB, sC])
   refine tkH 7 (some 33) ?_
   (try simp only [Act.put, sA, sB, sC])
   refine wpAnyH_one (i := 4) rfl (by kernel_rfl) (by rfl) (fun K hK => ?_)
   go_simp
   refine (HSB.out _ (Ev.drew (Ev.refl _))).mono ?_
   rintro e w4 ⟨rfl, hb4⟩
   have hE4 : Ev W5 w4 := Ev.trans (Ev.drew (Ev.refl _)) hb4
   refine hK.out _ _ (HSE.out _ hE4) (fun hHeld => ?_)
   clear hK K
   (try simp only [Act.put, List.setIfInBounds_toArray, List.set_cons_zero, List.set_cons_succ])
   refine wpAnyH_one (i := 8) rfl (by kernel_rfl) (by rfl) (fun K hK => ?_)
   go_simp
   refine (HSD.out _ hE4).mono ?_
   rintro e w6 ⟨rfl, hb6⟩
   have hE6 : Ev W5 w6 := hE4.trans hb6
   refine hK.out _ _ (HSE.out _ hE6) (fun hHeld => ?_)
   clear hK K
   (try simp only [Act.put, List.setIfInBounds_toArray, List.set_cons_zero, List.set_cons_succ])
   refine tkH 9 (some 35) ?_
   (try simp only [Act.put, sA, sB, sC])
   refine wpAnyH_one (i := 10) rfl (by kernel_rfl) (by rfl) (fun K hK => ?_)
   have hd6 := hE6.heap HD5.out
   obtain ⟨d0, d1, d2⟩ := cells3 hd6
   obtain ⟨f0, f1, f2⟩ := frz3 hd6
   go_simp
   generalize hX7 : World.setCell _ _ _ = X7
   have HX7 := hid (show X7.heap[w.heap.size]? = some (.cells #[.int .i64 (k : Int), .bool (M.burnsAt f ts plan k), .bool (M.diesAt f ts plan k)] 64 (0, 0)) from by rw [← hX7]; exact set3 hd6)
   have HM57 := hid (show Mo w.heap.size W5 X7 from by rw [← hX7]; exact (((Mo.ev hE6).own _ _).own _ _).own _ _)
   clear hX7 d0 d1 d2 f0 f1 f2 hd6 HSB HSD
   refine hK.out _ _ (⟨fun o => HM57.out.cells.1 _ _ lq1 (by omega), fun o => HM57.out.cells.1 _ _ lq2 (by omega)⟩) (fun hHeld => ?_)
   clear hK K
   (try simp only [Act.put, List.setIfInBounds_toArray, List.set_cons_zero, List.set_cons_succ])
   refine wpAnyH_done (by kernel_rfl) ?_ _
   generalize haa : M.burnsAt f ts plan k = a at HX7 HSK ⊢
   generalize hbb : M.diesAt f ts plan k = b at HX7 HSK ⊢
   have HM7 := hid (hB.trans ((Mo.ev HE5.out).trans HM57.out))
   have HAA := hid haa
   have HBB := hid hbb
   clear haa hbb x0 x1 x2 x3 hHeld
   obtain ⟨d0, d1, d2⟩ := cells3 HX7.out
   obtain ⟨f0, f1, f2⟩ := frz3 HX7.out
   cases a
   ·
    cases b
    ·
     go_wp2_with fail
     exact ⟨⟨k + 1, by go_num, by omega, HM7.out, ⟨_, _, _, HX7.out⟩, hid (by rw [← hsk.out, HSK.out]; rfl)⟩, by simp [intOf]; omega⟩
    ·
     have HV := hid (show M.fearV f ts plan = .tuple #[.agg #[.int .i64 (k : Int), .bool false, .bool true], .bool true] by rw [HFD.out, ← hsk.out, HSK.out]; simp only [Bool.true_or, Bool.or_true, if_true, HAA.out, HBB.out])
     go_wp2_with fail
     have hF := set3 (v0 := .int .i64 (k : Int)) (v1 := .bool false) (v2 := .bool true) HX7.out
     obtain ⟨e0, e1, e2⟩ := cells3 hF
     refine bodyPost_ret (v := .tuple #[.agg #[.int .i64 (k : Int), .bool false, .bool true], .bool true]) (by simp [results, Try.results79, go_sem, e0, e1, e2]) rfl ⟨by rw [HV.out], ?_⟩
     have hfin := (((HM7.out.own 0 (.int .i64 (k : Int))).own 1 (.bool false)).own 2 (.bool true))
     exact HMF.out _ hfin
   ·
    have HV := hid (show M.fearV f ts plan = .tuple #[.agg #[.int .i64 (k : Int), .bool true, .bool b], .bool true] by rw [HFD.out, ← hsk.out, HSK.out]; simp only [Bool.true_or, Bool.or_true, if_true, HAA.out, HBB.out])
    go_wp2_with fail
    have hF := set3 (v0 := .int .i64 (k : Int)) (v1 := .bool true) (v2 := .bool b) HX7.out
    obtain ⟨e0, e1, e2⟩ := cells3 hF
    refine bodyPost_ret (v := .tuple #[.agg #[.int .i64 (k : Int), .bool true, .bool b], .bool true]) (by simp [results, Try.results79, go_sem, e0, e1, e2]) rfl ⟨by rw [HV.out], ?_⟩
    have hfin := (((HM7.out.own 0 (.int .i64 (k : Int))).own 1 (.bool true)).own 2 (.bool b))
    exact HMF.out _ hfin
  ·
   have H0 : nw - k = 0 := by omega
   have HV := hid (show M.fearV f ts plan = .tuple #[.agg #[.int .i64 0, .bool false, .bool false], .bool false] by rw [HFD.out, ← hsk.out, H0]; rfl)
   obtain ⟨d0, d1, d2⟩ := cells3 hzd
   obtain ⟨f0, f1, f2⟩ := frz3 hzd
   have HZD := hid hzd
   clear hsk hzd H0
   go_wp2_with fail
   have hF := set3 (v0 := .int .i64 0) (v1 := .bool false) (v2 := .bool false) HZD.out
   obtain ⟨e0, e1, e2⟩ := cells3 hF
   refine bodyPost_ret (v := .tuple #[.agg #[.int .i64 0, .bool false, .bool false], .bool false]) (by simp [results, Try.results79, go_sem, e0, e1, e2]) rfl ⟨by rw [HV.out], ?_⟩
   exact HMF.out _ (((hB.own 0 (.int .i64 0)).own 1 (.bool false)).own 2 (.bool false))

end Go.Proofs.Ytgimcephbeajlaa
