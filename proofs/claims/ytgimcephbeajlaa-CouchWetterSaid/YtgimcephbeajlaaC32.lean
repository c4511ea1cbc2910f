import Derived.Test.YtgimcephbeajlaaC31
import Derived.Test.YtgimcephbeajlaaC27
import Derived.Test.YtgimcephbeajlaaC17
import Derived.Maps.AppendAt
import Derived.Deep.DeepCutAuto
set_option linter.unusedSimpArgs false
set_option linter.unusedVariables false
namespace Go.Proofs.Ytgimcephbeajlaa
open Go.RowKit Go.Shelf

/-- How many numbers a range has. -/
def M.sz (r : M.Rg) : Nat := (r.hi - r.lo + 1).toNat
/-- The wets of the truth with a number. -/
def M.nws : List M.Rg → Nat → List Int
 | [], _ => []
 | r :: rs, n => (r.lo + ((n % M.sz r : Nat) : Int)) :: M.nws rs (n / M.sz r)
def M.nth (f : M.Cf) (n : Nat) : M.Tr := ⟨f.st.lo + ((n % M.sz f.st : Nat) : Int), M.nws f.wet (n / M.sz f.st)⟩
def M.prodN : List M.Rg → Nat
 | [] => 1
 | r :: rs => M.sz r * M.prodN rs
theorem M.nws_len : ∀ (rs : List M.Rg) (n : Nat), (M.nws rs n).length = rs.length
 | [], _ => rfl
 | r :: rs, n => by rw [M.nws, List.length_cons, M.nws_len rs, List.length_cons]
theorem M.sz_holds {r : M.Rg} (h : r.lo ≤ r.hi) (n : Nat) : M.holds r (r.lo + ((n % M.sz r : Nat) : Int)) = true := by
 have : n % M.sz r < M.sz r := Nat.mod_lt _ (by unfold M.sz; omega)
 have hz : M.sz r = (r.hi - r.lo + 1).toNat := rfl
 generalize n % M.sz r = q at this ⊢
 generalize M.sz r = z at this hz
 unfold M.holds
 simp only [Bool.and_eq_true, decide_eq_true_eq]
 omega
theorem M.nws_in : ∀ (rs : List M.Rg) (n : Nat), (∀ r ∈ rs, r.lo ≤ r.hi) → M.inAll (M.nws rs n) rs = true
 | [], _, _ => rfl
 | r :: rs, n, h => by
  rw [M.nws, M.inAll, M.sz_holds (h r (by simp)), M.nws_in rs _ (fun x hx => h x (by simp [hx]))]; rfl
theorem M.nws_onto : ∀ (rs : List M.Rg) (xs : List Int), M.inAll xs rs = true → ∃ n, n < M.prodN rs ∧ M.nws rs n = xs
 | [], [], _ => ⟨0, by simp [M.prodN], rfl⟩
 | [], _ :: _, h => by simp [M.inAll] at h
 | _ :: _, [], h => by simp [M.inAll] at h
 | r :: rs, x :: xs, h => by
  rw [M.inAll, Bool.and_eq_true] at h
  obtain ⟨m, hm, e1⟩ := M.nws_onto rs xs h.2
  have g1 := h.1
  unfold M.holds at g1
  simp only [Bool.and_eq_true, decide_eq_true_eq] at g1
  have hz : 0 < M.sz r := by unfold M.sz; omega
  obtain ⟨a, ha⟩ : ∃ a : Nat, x - r.lo = a := ⟨(x - r.lo).toNat, by omega⟩
  have has : a < M.sz r := by unfold M.sz; omega
  refine ⟨a + M.sz r * m, ?_, ?_⟩
  ·
   rw [M.prodN]
   have i1 : M.sz r * (m + 1) ≤ M.sz r * M.prodN rs := Nat.mul_le_mul_left _ hm
   rw [Nat.mul_add, Nat.mul_one] at i1
   omega
  ·
   rw [M.nws, Nat.add_mul_mod_self_left, Nat.mod_eq_of_lt has, Nat.add_mul_div_left _ _ hz, Nat.div_eq_of_lt has, Nat.zero_add, e1]
   congr 1
   omega
theorem M.manyK_prod : ∀ (l : List M.Rg) (n : Nat), (∀ r ∈ l, r.lo ≤ r.hi) → M.manyK l n ≤ 2000 → M.manyK l n = ((n * M.prodN l : Nat) : Int)
 | [], n, _, _ => by simp [M.manyK, M.prodN]
 | r :: rs, n, hl, h => by
  have hr := hl r (by simp)
  have hz : r.hi - r.lo + 1 = ((M.sz r : Nat) : Int) := by unfold M.sz; omega
  unfold M.manyK at h ⊢
  rw [hz, ← Int.natCast_mul] at h ⊢
  by_cases hb : 3000 ≤ n * M.sz r
  ·
   have h1 : min (3000 : Int) ((n * M.sz r : Nat) : Int) = 3000 := by omega
   rw [h1] at h
   have := M.manyK_max rs 3000 (fun x hx => hl x (by simp [hx])) (by omega)
   omega
  ·
   have h1 : min (3000 : Int) ((n * M.sz r : Nat) : Int) = ((n * M.sz r : Nat) : Int) := by omega
   rw [h1] at h ⊢
   rw [M.manyK_prod rs _ (fun x hx => hl x (by simp [hx])) h, M.prodN, Nat.mul_assoc]
theorem M.many_nat {f : M.Cf} (h0 : M.check f = 0) : M.many f = ((M.prodN (M.ranges f) : Nat) : Int) ∧ M.prodN (M.ranges f) ≤ 2000 := by
 obtain ⟨_, _, hv, ht⟩ := M.check0 h0
 have hp := (M.valid_parts hv).2.2.2.1
 have hw : ∀ r ∈ f.wet, r.lo ≤ r.hi := fun r hr => (M.wet_bd hv r hr).2.1
 have h2 : ¬ (2000 < M.many f) := fun h => by
  have := (M.many_too f (by omega) (by omega) hw).2 h
  rw [ht] at this; cases this
 have hz : f.st.hi - f.st.lo + 1 = ((M.sz f.st : Nat) : Int) := by unfold M.sz; omega
 have h3 : M.many f = ((M.prodN (M.ranges f) : Nat) : Int) := by
  unfold M.many at h2 ⊢
  rw [hz] at h2 ⊢
  rw [M.manyK_prod f.wet (M.sz f.st) hw (by omega)]
  rfl
 refine ⟨h3, ?_⟩
 omega
theorem M.prodN_pos : ∀ (l : List M.Rg), (∀ r ∈ l, r.lo ≤ r.hi) → 1 ≤ M.prodN l
 | [], _ => by simp [M.prodN]
 | r :: rs, h => by
  have h1 : 1 ≤ M.sz r := by have := h r (by simp); unfold M.sz; omega
  have h2 := M.prodN_pos rs (fun x hx => h x (by simp [hx]))
  rw [M.prodN]
  exact Nat.mul_le_mul h1 h2
theorem M.nth_listed {f : M.Cf} (hv : M.valid f = true) (n : Nat) : M.listed f (M.nth f n) = true := by
 have hp := (M.valid_parts hv).2.2.2.1
 unfold M.listed M.nth
 rw [M.sz_holds hp.2.1, M.nws_len, M.nws_in _ _ (fun r hr => (M.wet_bd hv r hr).2.1)]
 simp
/-- Each truth that is listed has a number. -/
theorem M.listed_nth {f : M.Cf} {t : M.Tr} (ht : M.listed f t = true) : ∃ n, n < M.prodN (M.ranges f) ∧ M.nth f n = t := by
 unfold M.listed at ht
 simp only [Bool.and_eq_true] at ht
 obtain ⟨n, h1, h2⟩ := M.nws_onto (f.st :: f.wet) (t.st :: t.wet) (by rw [M.inAll, ht.1, ht.2.2]; rfl)
 refine ⟨n, h1, ?_⟩
 rw [M.nws] at h2
 injection h2 with e1 e2
 unfold M.nth
 rw [e1, e2]
theorem M.many_pos {f : M.Cf} (h0 : M.check f = 0) : 1 ≤ M.prodN (M.ranges f) := by
 have hv := (M.check0 h0).2.2.1
 refine M.prodN_pos _ (fun r hr => ?_)
 have := M.ranges_bd hv r hr
 omega
theorem set2' {W : World} {b : Nat} {t : TypeId} {z0 z1 v0 v1 : Value} (h : W.heap[b]? = some (.cells #[z0, z1] t (0, 0))) :
  ((W.setCell ⟨b, 0, none⟩ v0).setCell ⟨b, 1, none⟩ v1).heap[b]? = some (.cells #[v0, v1] t (0, 0)) := by
 rw [set_heap_same (set_heap_same h)]; rfl

section
variable {P : Program} {w : World}
theorem wp_append_own_at {o : Oper} {a : Act} {K : Act → World → Prop} {Q : Exit → Act → World → Prop} (s x : Operand) (t : TypeId)
  (ho : o.op = .call { callee := .builtin .append, args := #[s, x], argTypes := #[t, t] })
  (base : Nat) (e : TypeId) (i : TypeInfo) (z : Value) (size bytes : Nat) (ht : P.underlying t = some (.slice e)) (hi : P.info? e = some i) (hz : i.zero = some z)
  (hsize : i.size = size) (hby : i.bytes = bytes) (hzs : z.cells.size = size) (hsz : 0 < size)
  (v : Value) (n : Nat) (xs : List Value) (hs : a.eval s = v) (hown : w.ownsRow base e size v n xs)
  (ad : Addr) (m c : Nat) (news : List Value) (hx : a.eval x = .slice (some ad) m c) (hl : news.length = m * size) (hnews : ∀ j u, news[j]? = some u → w.cell? (ad.add j) = some u) (h1 : ∀ u ∈ news, u.oneCell' = true)
  (h63 : n + m ≤ maxLen) (hbytes : (n + m) * bytes ≤ 140737488355328) (hbase : base ≤ w.heap.size)
  (h : ∀ v' w', w'.ownsRow base e size v' (n + m) (xs ++ news) → w.grownBy w' v.ownBlock → (v'.ownBlock = v.ownBlock ∨ v'.ownBlock = some w.heap.size) → K (a.put o.dst v') w') : o.wp P a w K Q := by
 obtain ⟨v', w', hr, h2, h3, h4, h5⟩ := run_append_own_at (P := P) w base t o.type e i z size bytes ht hi hz hsize hby hzs hsz v n xs hown ad m c news hl hnews h1 h63 hbytes hbase
 unfold Oper.wp execOp
 simp only [ho, resolve, invoke, builtin, Sem.run_bind, Sem.run_pure, Result.andThen_ok, List.map_toArray, List.map_cons, List.map_nil, hs, hx, hr]
 exact h v' w' h2 h3 h5
end

set_option maxRecDepth 100000 in
set_option maxHeartbeats 8000000 in
theorem Nth_c (f : M.Cf) (Aw At Ar : Option Addr) (nw cw nt ct nr cr : Nat) (hv : M.valid f = true) (hl9 : f.last ≤ 9) (n : Nat) (hn : n ≤ 1000000) (w : World) (hs : CS w w.heap.size f Aw At Ar nw cw nt ct nr cr) :
  Calls Try.prog 56 #[.agg #[.int .i64 f.last, .int .i64 f.size, .int .i64 f.cool, .int .i64 f.die, .int .i64 f.burn, .int .i64 f.st.lo, .int .i64 f.st.hi, .slice Aw nw cw, .slice At nt ct, .slice Ar nr cr], .int .i64 n] w fun e w' => (∃ Bw dw, e = .returned (.agg #[.int .i64 (M.nth f n).st, .slice Bw nw dw]) ∧ w'.ownsRow w.heap.size 3 1 (.slice Bw nw dw) nw ((M.nth f n).wet.flatMap ics)) ∧ Ev w w' := by
 obtain ⟨i0, hi0, hz0, hz1, hz2⟩ := info_parts info3
 have hwl := hs.w_.len
 have hvp := M.valid_parts hv
 have hst := hvp.2.2.2.1
 have hng : nw ≤ 10 := by have := hvp.2.2.2.2.2.1; omega
 have HW := hid (M.wet_bd hv)
 have HCS := hid hs
 have hsz0 : f.st.hi - f.st.lo + 1 = ((M.sz f.st : Nat) : Int) := by unfold M.sz; omega
 have HS0 := hid (fun W => by have := Size_c f.st hst.1 hst.2.1 hst.2.2 W; rw [hsz0] at this; exact this)
 have hzl0 : 1 ≤ M.sz f.st := by omega
 have hzu0 : M.sz f.st ≤ 501 := by omega
 have hnt : M.nth f n = ⟨f.st.lo + ((n % M.sz f.st : Nat) : Int), M.nws f.wet (n / M.sz f.st)⟩ := rfl
 have hq1 : n % M.sz f.st < M.sz f.st := Nat.mod_lt _ (by omega)
 have hq2 : n / M.sz f.st ≤ n := Nat.div_le_self _ _
 generalize M.sz f.st = sz0 at HS0 hzl0 hzu0 hnt hq1 hq2
 have a0 : ¬ ((sz0 : Int) = 0) := by omega
 have a0' : ¬ (sz0 = 0) := by omega
 have a1 : (n : Int).tmod sz0 = ((n % sz0 : Nat) : Int) := by rw [Int.tmod_eq_emod_of_nonneg (by omega)]; exact (Int.natCast_emod n sz0).symm
 have a2 : (n : Int).tdiv sz0 = ((n / sz0 : Nat) : Int) := by rw [Int.tdiv_eq_ediv_of_nonneg (by omega)]; exact (Int.natCast_ediv n sz0).symm
 have a3 : (n : Int) % sz0 = ((n % sz0 : Nat) : Int) := (Int.natCast_emod n sz0).symm
 have a4 : (n : Int) / sz0 = ((n / sz0 : Nat) : Int) := (Int.natCast_ediv n sz0).symm
 generalize n % sz0 = nr0 at a1 a3 hnt hq1
 generalize n / sz0 = nd at a2 a4 hnt hq2
 have g1 : IntKind.i64.wrap (nr0 : Int) = nr0 := IntWalk.i64_in _ (by omega)
 have g2 : IntKind.i64.wrap (f.st.lo + (nr0 : Int)) = f.st.lo + (nr0 : Int) := IntWalk.i64_in _ (by omega)
 have g3 : IntKind.i64.wrap (nd : Int) = nd := IntWalk.i64_in _ (by omega)
 generalize hx0 : f.st.lo + (nr0 : Int) = x0 at g2 hnt
 generalize M.nth f n = tr at hnt ⊢
 subst hnt
 generalize hnws : M.nws f.wet nd = nws
 have HNW := hid hnws
 clear hnws hs hv hvp hsz0
 go_enter Try.func56, Try.ntmps56
 go_upto_region 1 with fail
 generalize hW0 : World.alloc (World.alloc w _) _ = W0
 have hE0 : Ev w W0 := by rw [← hW0]; exact Ev.alloc (Ev.alloc (Ev.refl _) _) _
 have hal := alloc2 w (.cells #[.int .i64 f.last, .int .i64 f.size, .int .i64 f.cool, .int .i64 f.die, .int .i64 f.burn, .int .i64 f.st.lo, .int .i64 f.st.hi, .slice Aw nw cw, .slice At nt ct, .slice Ar nr cr] 28) (.cells #[.int .i64 0, .slice none 0 0] 30)
 rw [hW0] at hal
 have Q0 := hid hal.1
 have Q1 := hid hal.2.1
 have HZ := hid hal.2.2
 clear hal hW0
 obtain ⟨y0, y1, y2, y3, y4, y5, y6, y7, y8, y9⟩ := cells10 Q0.out
 have l0 := heap_lt Q0.out
 have HSE : Hid (∀ w', Ev W0 w' → (∀ o, w'.cell? ⟨w.heap.size, o, none⟩ = W0.cell? ⟨w.heap.size, o, none⟩)) := hid (fun w' h => fun o => h.cells.1 _ o l0)
 go_cut [5] (fun v W => ∃ p : Nat, v = .pointer (some ⟨p, 0, none⟩) ∧ w.heap.size + 2 ≤ p ∧ Ev w W ∧ Hid (W.heap[w.heap.size]? = some (.cells #[.int .i64 f.last, .int .i64 f.size, .int .i64 f.cool, .int .i64 f.die, .int .i64 f.burn, .int .i64 f.st.lo, .int .i64 f.st.hi, .slice Aw nw cw, .slice At nt ct, .slice Ar nr cr] 28 (0, 0))) ∧ Hid (W.heap[w.heap.size + 1]? = some (.cells #[.int .i64 0, .slice none 0 0] 30 (0, 0))) ∧ Hid (W.heap[p]? = some (.cells #[.int .i64 x0, .slice none 0 0] 30 (0, 0))))
 case first =>
  refine wp_region_held_drew (S := fun w' => (∀ o, w'.cell? ⟨w.heap.size, o, none⟩ = W0.cell? ⟨w.heap.size, o, none⟩)) (by kernel_rfl) (fun o => rfl) (fun hHeld => ?_)
  refine tkH 0 (some 8) ?_
  (try simp only [Act.put, sA, sB, sC])
  refine tkH 1 (some 9) ?_
  (try simp only [Act.put, sA, sB, sC])
  refine tkH 2 (some 10) ?_
  (try simp only [Act.put, sA, sB, sC])
  refine tkH 3 (some 11) ?_
  (try simp only [Act.put, sA, sB, sC])
  refine tkH 4 (some 12) ?_
  (try simp only [Act.put, sA, sB, sC])
  refine tkH 5 (some 13) ?_
  (try simp only [Act.put, sA, sB, sC])
  refine wpAnyH_ready (rs := [6, 10]) (by kernel_rfl) (by simp) ?_
  refine AllReadyH.cons rfl (fun K hK => ?_) (AllReadyH.cons rfl (fun K hK => ?_) (AllReadyH.nil))
  ·
   go_simp
   refine (HS0.out _).mono ?_
   rintro e z6 ⟨rfl, hb6⟩
   have hy6 : Ev W0 z6 := Ev.trans (Ev.drew (Ev.refl _)) hb6
   refine hK.out _ _ (HSE.out _ hy6) (fun hHeld => ?_)
   clear hK K
   (try simp only [Act.put, List.setIfInBounds_toArray, List.set_cons_zero, List.set_cons_succ])
   refine tkH 7 (some 15) ?_
   (try simp only [Act.put, sA, sB, sC])
   refine tkH 8 (some 16) ?_
   (try simp only [Act.put, sA, sB, sC])
   refine tkH 9 (some 17) ?_
   (try simp only [Act.put, sA, sB, sC])
   refine wpAnyH_one (i := 10) rfl (by kernel_rfl) (by rfl) (fun K hK => ?_)
   go_simp
   generalize hWA : World.alloc z6 _ = WA
   have hal := alloc1 z6 (.cells #[.int .i64 0, .slice none 0 0] 30)
   have hbA : Ev z6 WA := by rw [← hWA]; exact Ev.alloc (Ev.refl _) _
   have hqA := hal.1
   rw [hWA] at hqA
   have hxA : Ev W0 WA := hy6.trans hbA
   have hpA : W0.heap.size ≤ z6.heap.size := hy6.size
   clear hal hWA
   refine hK.out _ _ (HSE.out _ hxA) (fun hHeld => ?_)
   clear hK K
   (try simp only [Act.put, List.setIfInBounds_toArray, List.set_cons_zero, List.set_cons_succ])
   refine wpAnyH_one (i := 11) rfl (by kernel_rfl) (by rfl) (fun K hK => ?_)
   have hq9 := hid hqA
   obtain ⟨u0, u1⟩ := cells2 hq9.out
   obtain ⟨v0, v1⟩ := frz2 hq9.out
   have hpp : w.heap.size + 2 ≤ z6.heap.size := by have := HZ.out; have := hpA; omega
   have hne : w.heap.size ≠ z6.heap.size := by omega
   go_simp
   refine hK.out _ _ (fun o => (cell_set_ne hne).trans ((cell_set_ne hne).trans (HSE.out _ hxA o))) (fun hHeld => ?_)
   clear hK K
   (try simp only [Act.put, List.setIfInBounds_toArray, List.set_cons_zero, List.set_cons_succ])
   refine wpAnyH_done (by kernel_rfl) ?_ _
   go_wp2_with fail
   go_meet
   exact ⟨z6.heap.size, rfl, hpp, (Ev.setCell (Ev.setCell (hE0.trans hxA) (by show w.heap.size ≤ z6.heap.size; omega) _) (by show w.heap.size ≤ z6.heap.size; omega) _), hid (set_heap (set_heap (hxA.heap Q0.out) (by omega)) (by omega)), hid (set_heap (set_heap (hxA.heap Q1.out) (by omega)) (by omega)), hid (set2' hq9.out)⟩
  ·
   go_simp
   generalize hWA : World.drew (World.alloc W0 _) = WA
   have hal := alloc1 W0 (.cells #[.int .i64 0, .slice none 0 0] 30)
   have hbA : Ev W0 WA := by rw [← hWA]; exact Ev.drew (Ev.alloc (Ev.refl _) _)
   have hqA := (show Ev (World.alloc W0 (.cells #[.int .i64 0, .slice none 0 0] 30)) WA from by rw [← hWA]; exact Ev.drew (Ev.refl _)).heap hal.1
   have hxA : Ev W0 WA := hbA
   have hpA : W0.heap.size ≤ W0.heap.size := Nat.le_refl _
   clear hal hWA
   refine hK.out _ _ (HSE.out _ hxA) (fun hHeld => ?_)
   clear hK K
   (try simp only [Act.put, List.setIfInBounds_toArray, List.set_cons_zero, List.set_cons_succ])
   refine wpAnyH_one (i := 6) rfl (by kernel_rfl) (by rfl) (fun K hK => ?_)
   go_simp
   refine (HS0.out _).mono ?_
   rintro e z6 ⟨rfl, hb6⟩
   have hy6 : Ev W0 z6 := Ev.trans hxA hb6
   refine hK.out _ _ (HSE.out _ hy6) (fun hHeld => ?_)
   clear hK K
   (try simp only [Act.put, List.setIfInBounds_toArray, List.set_cons_zero, List.set_cons_succ])
   refine tkH 7 (some 15) ?_
   (try simp only [Act.put, sA, sB, sC])
   refine tkH 8 (some 16) ?_
   (try simp only [Act.put, sA, sB, sC])
   refine tkH 9 (some 17) ?_
   (try simp only [Act.put, sA, sB, sC])
   refine wpAnyH_one (i := 11) rfl (by kernel_rfl) (by rfl) (fun K hK => ?_)
   have hq9 := hid (hb6.heap hqA)
   obtain ⟨u0, u1⟩ := cells2 hq9.out
   obtain ⟨v0, v1⟩ := frz2 hq9.out
   have hpp : w.heap.size + 2 ≤ W0.heap.size := by have := HZ.out; have := hpA; omega
   have hne : w.heap.size ≠ W0.heap.size := by omega
   go_simp
   refine hK.out _ _ (fun o => (cell_set_ne hne).trans ((cell_set_ne hne).trans (HSE.out _ hy6 o))) (fun hHeld => ?_)
   clear hK K
   (try simp only [Act.put, List.setIfInBounds_toArray, List.set_cons_zero, List.set_cons_succ])
   refine wpAnyH_done (by kernel_rfl) ?_ _
   go_wp2_with fail
   go_meet
   exact ⟨W0.heap.size, rfl, hpp, (Ev.setCell (Ev.setCell (hE0.trans hy6) (by show w.heap.size ≤ W0.heap.size; omega) _) (by show w.heap.size ≤ W0.heap.size; omega) _), hid (set_heap (set_heap (hy6.heap Q0.out) (by omega)) (by omega)), hid (set_heap (set_heap (hy6.heap Q1.out) (by omega)) (by omega)), hid (set2' hq9.out)⟩
 case rest =>
  clear y0 y1 y2 y3 y4 y5 y6 y7 y8 y9
  clear HSE l0 Q0 Q1 HZ hE0
  obtain ⟨p, rfl, hpw, hEw, Q0, Q1, QC⟩ := hcut
  obtain ⟨W2, hW2⟩ : ∃ x, x = wc := ⟨_, rfl⟩
  subst hW2
  obtain ⟨y0, y1, y2, y3, y4, y5, y6, y7, y8, y9⟩ := cells10 Q0.out
  go_upto_region 3 with (go_at_call 86; with_reducible refine (HS0.out _).mono ?_; rintro e W3 ⟨rfl, hb3⟩)
  clear y0 y1 y2 y3 y4 y5 y6 y7 y8 y9
  go_wp2_with fail
  go_loopw [1, 6] (fun a i wr => ∃ (k m : Nat) (us : List Int) (Vw : Option Addr) (cf : Nat), a = .int .i64 m ∧ i = .int .i64 k ∧ k ≤ nw ∧ m ≤ 1000000 ∧ Ev w wr ∧ Hid (wr.heap[w.heap.size]? = some (.cells #[.int .i64 f.last, .int .i64 f.size, .int .i64 f.cool, .int .i64 f.die, .int .i64 f.burn, .int .i64 f.st.lo, .int .i64 f.st.hi, .slice Aw nw cw, .slice At nt ct, .slice Ar nr cr] 28 (0, 0))) ∧ Hid (wr.heap[w.heap.size + 1]? = some (.cells #[.int .i64 0, .slice none 0 0] 30 (0, 0))) ∧ Hid (wr.heap[p]? = some (.cells #[.int .i64 x0, .slice Vw k cf] 30 (0, 0))) ∧ Hid (wr.ownsRow (p + 1) 3 1 (.slice Vw k cf) k (us.flatMap ics)) ∧ Hid (us ++ M.nws (f.wet.drop k) m = nws)) (fun _ i _ => nw - (intOf i).toNat)
  case atStart => exact ⟨0, nd, [], none, 0, rfl, rfl, by omega, by omega, hEw.trans hb3, hid (hb3.heap Q0.out), hid (hb3.heap Q1.out), hid (hb3.heap QC.out), hid (World.ownsRow_nil _ _ _ _), hid (by rw [List.drop_zero]; exact HNW.out)⟩
  case round =>
   obtain ⟨k, m, us, Vw, cf, rfl, rfl, hk, hm, hB, hQ0, hQ1, hC, hown, hP⟩ := hrel
   obtain ⟨W1, hW1⟩ : ∃ x, x = wr := ⟨_, rfl⟩
   subst hW1
   clear Q0 Q1 QC hb3
   obtain ⟨y0, y1, y2, y3, y4, y5, y6, y7, y8, y9⟩ := cells10 hQ0.out
   have lq := heap_lt hQ0.out
   have lp := heap_lt hC.out
   have hBs := hB.size
   by_cases hlt : k < nw
   ·
    obtain ⟨b, off, r, hA, hb, hx, hxd, hcc⟩ := HCS.out.w_.at_ hB hlt
    have e0 := hcc 0 _ rfl
    have e1 := hcc 1 _ rfl
    simp only [Nat.add_zero] at e0
    have hcap := HCS.out.w_.cap
    subst hA
    have hr := HW.out r (List.mem_of_getElem? hx)
    have hP2 := hP.out
    rw [hxd, M.nws] at hP2
    have hsz : r.hi - r.lo + 1 = ((M.sz r : Nat) : Int) := by unfold M.sz; omega
    have HSZ := hid (fun W => by have := Size_c r hr.1 hr.2.1 (by omega) W; rw [hsz] at this; exact this)
    have hzl : 1 ≤ M.sz r := by omega
    have hzu : M.sz r ≤ 21 := by omega
    generalize M.sz r = z at HSZ hP2 hzl hzu
    have a0 : ¬ ((z : Int) = 0) := by omega
    have a0' : ¬ (z = 0) := by omega
    have a1 : (m : Int).tmod z = ((m % z : Nat) : Int) := by rw [Int.tmod_eq_emod_of_nonneg (by omega)]; exact (Int.natCast_emod m z).symm
    have a2 : (m : Int).tdiv z = ((m / z : Nat) : Int) := by rw [Int.tdiv_eq_ediv_of_nonneg (by omega)]; exact (Int.natCast_ediv m z).symm
    have a3 : (m : Int) % z = ((m % z : Nat) : Int) := (Int.natCast_emod m z).symm
    have a4 : (m : Int) / z = ((m / z : Nat) : Int) := (Int.natCast_ediv m z).symm
    have b1 : m % z < z := Nat.mod_lt _ (by omega)
    have b2 : m / z ≤ m := Nat.div_le_self _ _
    generalize m % z = mr at a1 a3 hP2 b1
    generalize m / z = md at a2 a4 hP2 b2
    have g1 : IntKind.i64.wrap (mr : Int) = mr := IntWalk.i64_in _ (by omega)
    have g2 : IntKind.i64.wrap (r.lo + (mr : Int)) = r.lo + (mr : Int) := IntWalk.i64_in _ (by omega)
    have g3 : IntKind.i64.wrap (md : Int) = md := IntWalk.i64_in _ (by omega)
    generalize hx0 : r.lo + (mr : Int) = x at g2 hP2
    have HP2 : Hid ((us ++ [x]) ++ M.nws (f.wet.drop (k + 1)) md = nws) := hid (by rw [List.append_assoc]; exact hP2)
    clear hP hx hxd hcc hsz hP2
    go_upto_region 7 with fail
    generalize hWT : World.alloc W1 _ = WT
    have hET : Ev W1 WT := by rw [← hWT]; exact Ev.alloc (Ev.refl _) _
    have hal := alloc1 W1 (.cells #[.int .i64 r.lo, .int .i64 r.hi] 23)
    rw [hWT] at hal
    have HT := hid hal.1
    have hszT : WT.heap.size = W1.heap.size + 1 := hal.2
    clear hal hWT
    have hEW := hB.trans hET
    have HC := hid (hET.heap hC.out)
    have Q0T := hid (hET.heap hQ0.out)
    have Q1T := hid (hET.heap hQ1.out)
    have hneT : (Value.slice Vw k cf).ownBlock ≠ some W1.heap.size := fun e => by have := (hown.out.lt _ e).2; omega
    replace hown := hid (hown.out.ev hET)
    obtain ⟨t0, t1⟩ := cells2 HT.out
    clear y0 y1 y2 y3 y4 y5 y6 y7 y8 y9 e0 e1
    clear hC hQ0 hQ1
    have lT : W1.heap.size < WT.heap.size := by omega
    have HSE : Hid (∀ w', Ev WT w' → (∀ o, w'.cell? ⟨W1.heap.size, o, none⟩ = WT.cell? ⟨W1.heap.size, o, none⟩)) := hid (fun w' h => fun o => h.cells.1 _ o lT)
    refine wp_region_held_drew (S := fun w' => (∀ o, w'.cell? ⟨W1.heap.size, o, none⟩ = WT.cell? ⟨W1.heap.size, o, none⟩)) (by kernel_rfl) (fun o => rfl) (fun hHeld => ?_)
    refine tkH 0 (some 35) ?_
    (try simp only [Act.put, sA, sB, sC])
    refine tkH 2 (some 37) ?_
    (try simp only [Act.put, sA, sB, sC])
    refine tkH 3 (some 38) ?_
    (try simp only [Act.put, sA, sB, sC])
    refine tkH 4 (some 39) ?_
    (try simp only [Act.put, sA, sB, sC])
    refine tkH 5 (some 40) ?_
    (try simp only [Act.put, sA, sB, sC])
    refine tkH 11 (some 46) ?_
    (try simp only [Act.put, sA, sB, sC])
    refine tkH 12 (some 47) ?_
    (try simp only [Act.put, sA, sB, sC])
    refine wpAnyH_ready (rs := [1, 6]) (by kernel_rfl) (by simp) ?_
    refine AllReadyH.cons rfl (fun K hK => ?_) (AllReadyH.cons rfl (fun K hK => ?_) (AllReadyH.nil))
    ·
     obtain ⟨c0, c1⟩ := cells2 ((Ev.refl _).heap HC.out)
     go_simp
     clear c0 c1
     refine hK.out _ _ (HSE.out _ (Ev.drew (Ev.refl _))) (fun hHeld => ?_)
     clear hK K
     (try simp only [Act.put, List.setIfInBounds_toArray, List.set_cons_zero, List.set_cons_succ])
     refine wpAnyH_one (i := 6) rfl (by kernel_rfl) (by rfl) (fun K hK => ?_)
     go_simp
     refine (HSZ.out _).mono ?_
     rintro e z1 ⟨rfl, hb1⟩
     have hy1 : Ev WT z1 := Ev.trans (Ev.drew (Ev.refl _)) hb1
     refine hK.out _ _ (HSE.out _ hy1) (fun hHeld => ?_)
     clear hK K
     (try simp only [Act.put, List.setIfInBounds_toArray, List.set_cons_zero, List.set_cons_succ])
     refine tkH 7 (some 42) ?_
     (try simp only [Act.put, sA, sB, sC])
     refine tkH 8 (some 43) ?_
     (try simp only [Act.put, sA, sB, sC])
     refine wpAnyH_one (i := 9) rfl (by kernel_rfl) (by rfl) (fun K hK => ?_)
     go_simp
     generalize hWA : World.alloc z1 _ = WA
     have hal := alloc1 z1 (.cells #[.int .i64 x] 3)
     have hEA : Ev WT WA := by rw [← hWA]; exact Ev.alloc hy1 _
     rw [hWA] at hal
     have HAL := hid hal.1
     have hszA : WA.heap.size = z1.heap.size + 1 := hal.2
     clear hal hWA
     refine hK.out _ _ (HSE.out _ hEA) (fun hHeld => ?_)
     clear hK K
     (try simp only [Act.put, List.setIfInBounds_toArray, List.set_cons_zero, List.set_cons_succ])
     refine wpAnyH_one (i := 10) rfl (by kernel_rfl) (by rfl) (fun K hK => ?_)
     have hown1 := hown.out.ev hEA
     have hps := hEA.size
     refine wp_append_own_at (.tmp 36) (.tmp 44) 25 rfl (p + 1) 3 i0 _ 1 8 Try.underlying25 hi0 hz0 hz1 hz2 rfl (by decide) _ k (us.flatMap ics) rfl hown1 ⟨z1.heap.size, 0, none⟩ 1 1 [.int .i64 x] rfl rfl (news_in HAL.out) (by simp [Value.oneCell']) (by unfold maxLen; omega) (by omega) (by omega) ?_
     intro v' w3 hown' hgrow hat
     have hown3 : w3.ownsRow (p + 1) 3 1 v' (k + 1) ((us ++ [x]).flatMap ics) := by rw [List.flatMap_append]; exact hown'
     obtain ⟨V', ce', rfl⟩ := own_form hown3
     have hltA := hown1.lt
     have hltT := hown.out.lt
     have HO3 := hid hown3
     have HQP := hid ((hgrow.block p (by omega) (fun e => by have := (hltA p e.symm).1; omega)).trans (hEA.heap HC.out))
     have H0G := hid ((hgrow.block w.heap.size (by omega) (fun e => by have := (hltA _ e.symm).1; omega)).trans (hEA.heap Q0T.out))
     have H1G := hid ((hgrow.block (w.heap.size + 1) (by omega) (fun e => by have := (hltA _ e.symm).1; omega)).trans (hEA.heap Q1T.out))
     have hbg := hgrow.block W1.heap.size (by omega) (fun e => hneT (by rw [e]; rfl))
     have HS2 : Hid (∀ w', Ev w3 w' → ∀ o, w'.cell? ⟨W1.heap.size, o, none⟩ = WT.cell? ⟨W1.heap.size, o, none⟩) := hid (fun w' h o => (h.cells.1 _ o (by have := hgrow.size; omega)).trans ((World.cell?_of_block hbg).trans (HSE.out _ hEA o)))
     have HE3 := hid (Ev.grown (hEW.trans hEA) hgrow (fun k e => by have := (hltA k e).1; omega))
     have hs3 := hgrow.size
     clear hbg hltA hltT hown' hgrow hown1 hown3 hat
     refine hK.out _ _ (HS2.out _ (Ev.refl _)) (fun hHeld => ?_)
     clear hK K
     (try simp only [Act.put, List.setIfInBounds_toArray, List.set_cons_zero, List.set_cons_succ])
     refine tkH 15 (some 50) ?_
     (try simp only [Act.put, sA, sB, sC])
     refine wpAnyH_one (i := 13) rfl (by kernel_rfl) (by rfl) (fun K hK => ?_)
     go_simp
     refine (HSZ.out _).mono ?_
     rintro e z5 ⟨rfl, hb5⟩
     refine hK.out _ _ (HS2.out _ hb5) (fun hHeld => ?_)
     clear hK K
     (try simp only [Act.put, List.setIfInBounds_toArray, List.set_cons_zero, List.set_cons_succ])
     refine tkH 14 (some 49) ?_
     (try simp only [Act.put, sA, sB, sC])
     refine wpAnyH_one (i := 16) rfl (by kernel_rfl) (by rfl) (fun K hK => ?_)
     obtain ⟨c0, c1⟩ := cells2 (hb5.heap HQP.out)
     obtain ⟨f0, f1⟩ := frz2 (hb5.heap HQP.out)
     have hneP : W1.heap.size ≠ p := by omega
     go_simp
     refine hK.out _ _ (fun o => (cell_set_ne hneP).trans (HS2.out _ hb5 o)) (fun hHeld => ?_)
     clear hK K
     (try simp only [Act.put, List.setIfInBounds_toArray, List.set_cons_zero, List.set_cons_succ])
     refine tkH 17 (some 1) ?_
     (try simp only [Act.put, sA, sB, sC])
     refine wpAnyH_done (by kernel_rfl) ?_ _
     have hq5 := hb5.heap HQP.out
     have HF := hid hq5
     clear c0 c1 f0 f1 hq5
     go_wp2
     refine ⟨⟨k + 1, md, us ++ [x], V', ce', rfl, by go_num, by omega, by omega, Ev.setCell (HE3.out.trans hb5) (by show w.heap.size ≤ p; omega) _, hid (set_heap (hb5.heap H0G.out) (by omega)), hid (set_heap (hb5.heap H1G.out) (by omega)), hid ?_, hid (own_set (HO3.out.ev hb5) HF.out (by decide)), HP2⟩, by simp [intOf]; omega⟩
     rw [set_heap_same HF.out]
     rfl
    ·
     go_simp
     refine (HSZ.out _).mono ?_
     rintro e z1 ⟨rfl, hb1⟩
     have hy1 : Ev WT z1 := Ev.trans (Ev.drew (Ev.refl _)) hb1
     refine hK.out _ _ (HSE.out _ hy1) (fun hHeld => ?_)
     clear hK K
     (try simp only [Act.put, List.setIfInBounds_toArray, List.set_cons_zero, List.set_cons_succ])
     refine tkH 7 (some 42) ?_
     (try simp only [Act.put, sA, sB, sC])
     refine tkH 8 (some 43) ?_
     (try simp only [Act.put, sA, sB, sC])
     refine wpAnyH_ready (rs := [1, 9]) (by kernel_rfl) (by simp) ?_
     refine AllReadyH.cons rfl (fun K hK => ?_) (AllReadyH.cons rfl (fun K hK => ?_) (AllReadyH.nil))
     ·
      obtain ⟨c0, c1⟩ := cells2 (hy1.heap HC.out)
      go_simp
      clear c0 c1
      refine hK.out _ _ (HSE.out _ hy1) (fun hHeld => ?_)
      clear hK K
      (try simp only [Act.put, List.setIfInBounds_toArray, List.set_cons_zero, List.set_cons_succ])
      refine wpAnyH_one (i := 9) rfl (by kernel_rfl) (by rfl) (fun K hK => ?_)
      go_simp
      generalize hWA : World.alloc z1 _ = WA
      have hal := alloc1 z1 (.cells #[.int .i64 x] 3)
      have hEA : Ev WT WA := by rw [← hWA]; exact Ev.alloc hy1 _
      rw [hWA] at hal
      have HAL := hid hal.1
      have hszA : WA.heap.size = z1.heap.size + 1 := hal.2
      clear hal hWA
      refine hK.out _ _ (HSE.out _ hEA) (fun hHeld => ?_)
      clear hK K
      (try simp only [Act.put, List.setIfInBounds_toArray, List.set_cons_zero, List.set_cons_succ])
      refine wpAnyH_one (i := 10) rfl (by kernel_rfl) (by rfl) (fun K hK => ?_)
      have hown1 := hown.out.ev hEA
      have hps := hEA.size
      refine wp_append_own_at (.tmp 36) (.tmp 44) 25 rfl (p + 1) 3 i0 _ 1 8 Try.underlying25 hi0 hz0 hz1 hz2 rfl (by decide) _ k (us.flatMap ics) rfl hown1 ⟨z1.heap.size, 0, none⟩ 1 1 [.int .i64 x] rfl rfl (news_in HAL.out) (by simp [Value.oneCell']) (by unfold maxLen; omega) (by omega) (by omega) ?_
      intro v' w3 hown' hgrow hat
      have hown3 : w3.ownsRow (p + 1) 3 1 v' (k + 1) ((us ++ [x]).flatMap ics) := by rw [List.flatMap_append]; exact hown'
      obtain ⟨V', ce', rfl⟩ := own_form hown3
      have hltA := hown1.lt
      have hltT := hown.out.lt
      have HO3 := hid hown3
      have HQP := hid ((hgrow.block p (by omega) (fun e => by have := (hltA p e.symm).1; omega)).trans (hEA.heap HC.out))
      have H0G := hid ((hgrow.block w.heap.size (by omega) (fun e => by have := (hltA _ e.symm).1; omega)).trans (hEA.heap Q0T.out))
      have H1G := hid ((hgrow.block (w.heap.size + 1) (by omega) (fun e => by have := (hltA _ e.symm).1; omega)).trans (hEA.heap Q1T.out))
      have hbg := hgrow.block W1.heap.size (by omega) (fun e => hneT (by rw [e]; rfl))
      have HS2 : Hid (∀ w', Ev w3 w' → ∀ o, w'.cell? ⟨W1.heap.size, o, none⟩ = WT.cell? ⟨W1.heap.size, o, none⟩) := hid (fun w' h o => (h.cells.1 _ o (by have := hgrow.size; omega)).trans ((World.cell?_of_block hbg).trans (HSE.out _ hEA o)))
      have HE3 := hid (Ev.grown (hEW.trans hEA) hgrow (fun k e => by have := (hltA k e).1; omega))
      have hs3 := hgrow.size
      clear hbg hltA hltT hown' hgrow hown1 hown3 hat
      refine hK.out _ _ (HS2.out _ (Ev.refl _)) (fun hHeld => ?_)
      clear hK K
      (try simp only [Act.put, List.setIfInBounds_toArray, List.set_cons_zero, List.set_cons_succ])
      refine tkH 15 (some 50) ?_
      (try simp only [Act.put, sA, sB, sC])
      refine wpAnyH_one (i := 13) rfl (by kernel_rfl) (by rfl) (fun K hK => ?_)
      go_simp
      refine (HSZ.out _).mono ?_
      rintro e z5 ⟨rfl, hb5⟩
      refine hK.out _ _ (HS2.out _ hb5) (fun hHeld => ?_)
      clear hK K
      (try simp only [Act.put, List.setIfInBounds_toArray, List.set_cons_zero, List.set_cons_succ])
      refine tkH 14 (some 49) ?_
      (try simp only [Act.put, sA, sB, sC])
      refine wpAnyH_one (i := 16) rfl (by kernel_rfl) (by rfl) (fun K hK => ?_)
      obtain ⟨c0, c1⟩ := cells2 (hb5.heap HQP.out)
      obtain ⟨f0, f1⟩ := frz2 (hb5.heap HQP.out)
      have hneP : W1.heap.size ≠ p := by omega
      go_simp
      refine hK.out _ _ (fun o => (cell_set_ne hneP).trans (HS2.out _ hb5 o)) (fun hHeld => ?_)
      clear hK K
      (try simp only [Act.put, List.setIfInBounds_toArray, List.set_cons_zero, List.set_cons_succ])
      refine tkH 17 (some 1) ?_
      (try simp only [Act.put, sA, sB, sC])
      refine wpAnyH_done (by kernel_rfl) ?_ _
      have hq5 := hb5.heap HQP.out
      have HF := hid hq5
      clear c0 c1 f0 f1 hq5
      go_wp2
      refine ⟨⟨k + 1, md, us ++ [x], V', ce', rfl, by go_num, by omega, by omega, Ev.setCell (HE3.out.trans hb5) (by show w.heap.size ≤ p; omega) _, hid (set_heap (hb5.heap H0G.out) (by omega)), hid (set_heap (hb5.heap H1G.out) (by omega)), hid ?_, hid (own_set (HO3.out.ev hb5) HF.out (by decide)), HP2⟩, by simp [intOf]; omega⟩
      rw [set_heap_same HF.out]
      rfl
     ·
      go_simp
      generalize hWA : World.alloc z1 _ = WA
      have hal := alloc1 z1 (.cells #[.int .i64 x] 3)
      have hEA : Ev WT WA := by rw [← hWA]; exact Ev.alloc hy1 _
      rw [hWA] at hal
      have HAL := hid hal.1
      have hszA : WA.heap.size = z1.heap.size + 1 := hal.2
      clear hal hWA
      refine hK.out _ _ (HSE.out _ hEA) (fun hHeld => ?_)
      clear hK K
      (try simp only [Act.put, List.setIfInBounds_toArray, List.set_cons_zero, List.set_cons_succ])
      refine wpAnyH_one (i := 1) rfl (by kernel_rfl) (by rfl) (fun K hK => ?_)
      obtain ⟨c0, c1⟩ := cells2 (hEA.heap HC.out)
      go_simp
      clear c0 c1
      refine hK.out _ _ (HSE.out _ hEA) (fun hHeld => ?_)
      clear hK K
      (try simp only [Act.put, List.setIfInBounds_toArray, List.set_cons_zero, List.set_cons_succ])
      refine wpAnyH_one (i := 10) rfl (by kernel_rfl) (by rfl) (fun K hK => ?_)
      have hown1 := hown.out.ev hEA
      have hps := hEA.size
      refine wp_append_own_at (.tmp 36) (.tmp 44) 25 rfl (p + 1) 3 i0 _ 1 8 Try.underlying25 hi0 hz0 hz1 hz2 rfl (by decide) _ k (us.flatMap ics) rfl hown1 ⟨z1.heap.size, 0, none⟩ 1 1 [.int .i64 x] rfl rfl (news_in HAL.out) (by simp [Value.oneCell']) (by unfold maxLen; omega) (by omega) (by omega) ?_
      intro v' w3 hown' hgrow hat
      have hown3 : w3.ownsRow (p + 1) 3 1 v' (k + 1) ((us ++ [x]).flatMap ics) := by rw [List.flatMap_append]; exact hown'
      obtain ⟨V', ce', rfl⟩ := own_form hown3
      have hltA := hown1.lt
      have hltT := hown.out.lt
      have HO3 := hid hown3
      have HQP := hid ((hgrow.block p (by omega) (fun e => by have := (hltA p e.symm).1; omega)).trans (hEA.heap HC.out))
      have H0G := hid ((hgrow.block w.heap.size (by omega) (fun e => by have := (hltA _ e.symm).1; omega)).trans (hEA.heap Q0T.out))
      have H1G := hid ((hgrow.block (w.heap.size + 1) (by omega) (fun e => by have := (hltA _ e.symm).1; omega)).trans (hEA.heap Q1T.out))
      have hbg := hgrow.block W1.heap.size (by omega) (fun e => hneT (by rw [e]; rfl))
      have HS2 : Hid (∀ w', Ev w3 w' → ∀ o, w'.cell? ⟨W1.heap.size, o, none⟩ = WT.cell? ⟨W1.heap.size, o, none⟩) := hid (fun w' h o => (h.cells.1 _ o (by have := hgrow.size; omega)).trans ((World.cell?_of_block hbg).trans (HSE.out _ hEA o)))
      have HE3 := hid (Ev.grown (hEW.trans hEA) hgrow (fun k e => by have := (hltA k e).1; omega))
      have hs3 := hgrow.size
      clear hbg hltA hltT hown' hgrow hown1 hown3 hat
      refine hK.out _ _ (HS2.out _ (Ev.refl _)) (fun hHeld => ?_)
      clear hK K
      (try simp only [Act.put, List.setIfInBounds_toArray, List.set_cons_zero, List.set_cons_succ])
      refine tkH 15 (some 50) ?_
      (try simp only [Act.put, sA, sB, sC])
      refine wpAnyH_one (i := 13) rfl (by kernel_rfl) (by rfl) (fun K hK => ?_)
      go_simp
      refine (HSZ.out _).mono ?_
      rintro e z5 ⟨rfl, hb5⟩
      refine hK.out _ _ (HS2.out _ hb5) (fun hHeld => ?_)
      clear hK K
      (try simp only [Act.put, List.setIfInBounds_toArray, List.set_cons_zero, List.set_cons_succ])
      refine tkH 14 (some 49) ?_
      (try simp only [Act.put, sA, sB, sC])
      refine wpAnyH_one (i := 16) rfl (by kernel_rfl) (by rfl) (fun K hK => ?_)
      obtain ⟨c0, c1⟩ := cells2 (hb5.heap HQP.out)
      obtain ⟨f0, f1⟩ := frz2 (hb5.heap HQP.out)
      have hneP : W1.heap.size ≠ p := by omega
      go_simp
      refine hK.out _ _ (fun o => (cell_set_ne hneP).trans (HS2.out _ hb5 o)) (fun hHeld => ?_)
      clear hK K
      (try simp only [Act.put, List.setIfInBounds_toArray, List.set_cons_zero, List.set_cons_succ])
      refine tkH 17 (some 1) ?_
      (try simp only [Act.put, sA, sB, sC])
      refine wpAnyH_done (by kernel_rfl) ?_ _
      have hq5 := hb5.heap HQP.out
      have HF := hid hq5
      clear c0 c1 f0 f1 hq5
      go_wp2
      refine ⟨⟨k + 1, md, us ++ [x], V', ce', rfl, by go_num, by omega, by omega, Ev.setCell (HE3.out.trans hb5) (by show w.heap.size ≤ p; omega) _, hid (set_heap (hb5.heap H0G.out) (by omega)), hid (set_heap (hb5.heap H1G.out) (by omega)), hid ?_, hid (own_set (HO3.out.ev hb5) HF.out (by decide)), HP2⟩, by simp [intOf]; omega⟩
      rw [set_heap_same HF.out]
      rfl
   ·
    obtain rfl : k = nw := by omega
    have hP2 := hP.out
    rw [show f.wet.drop k = [] from List.drop_eq_nil_of_le (by omega), M.nws, List.append_nil] at hP2
    have hn2 : ¬ ((k : Int) < k) := by omega
    obtain ⟨c0, c1⟩ := cells2 hC.out
    obtain ⟨z0, z1⟩ := cells2 hQ1.out
    obtain ⟨f0, f1⟩ := frz2 hQ1.out
    clear hP
    go_wp2_with fail
    have hF := set2' (v0 := (.int .i64 x0 : Value)) (v1 := (.slice Vw k cf : Value)) hQ1.out
    obtain ⟨d0, d1⟩ := cells2 hF
    have o2 := own_base (b' := w.heap.size) (own_set (j := 1) (u := (.slice Vw k cf : Value)) (own_set (j := 0) (u := (.int .i64 x0 : Value)) hown.out hQ1.out (by decide)) (set_heap_same hQ1.out) (by decide)) (by omega)
    subst hP2
    refine bodyPost_ret (v := .agg #[.int .i64 x0, .slice Vw k cf]) (by simp [results, Try.results56, go_sem, d0, d1]) rfl ⟨⟨Vw, cf, rfl, o2⟩, ?_⟩
    exact Ev.setCell (Ev.setCell hB (by simp) _) (by simp) _

end Go.Proofs.Ytgimcephbeajlaa
