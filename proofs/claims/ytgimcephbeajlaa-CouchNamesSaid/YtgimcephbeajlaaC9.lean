import Derived.Test.YtgimcephbeajlaaC8
set_option linter.unusedSimpArgs false
set_option linter.unusedVariables false
namespace Go.Proofs.Ytgimcephbeajlaa
open Go.RowKit Go.Shelf
attribute [local go_sem] Oper.semAt_some

theorem own_block_type {w : World} {base : Nat} {e : TypeId} {size : Nat} {v : Value} {n : Nat} {xs : List Value} (h : w.ownsRow base e size v n xs) {k : Nat} (hk : v.ownBlock = some k) : ∃ cs, w.heap[k]? = some (.cells cs e (0, 0)) := by
 rcases h.2 with ⟨rfl, _⟩ | ⟨g, cap, cur, rfl, _, hg, _⟩
 ·
  cases hk
 ·
  cases hk; exact ⟨_, hg⟩
theorem infoTr : (Try.prog.info? 42).map (fun i => (i.zero, i.size, i.bytes)) = some (some (.agg #[.int .i64 0, .slice none 0 0]), 2, 32) := by kernel_rfl
theorem infoWt : (Try.prog.info? 109).map (fun i => (i.zero, i.size, i.bytes)) = some (some (.agg #[.int .i64 0, .int .i64 0, .int .i64 0, .int .i64 0, .int .i64 0, .int .i64 0, .int .i64 0, .int .i64 0, .int .i64 0, .int .i64 0]), 10, 80) := by kernel_rfl
/-- What a round of open's loop keeps. -/
structure Kq (B mb p : Nat) (X Y : World) : Prop where
 os : Y.os = X.os
 tape : Y.tape = X.tape
 output : Y.output = X.output
 size : X.heap.size ≤ Y.heap.size
 block : ∀ k, k < B → (k < mb ∨ p < k) → k < X.heap.size → Y.heap[k]? = X.heap[k]?
theorem Kq.trans {B mb p : Nat} {X Y Z : World} (h : Kq B mb p X Y) (k : Kq B mb p Y Z) : Kq B mb p X Z :=
 ⟨k.os.trans h.os, k.tape.trans h.tape, k.output.trans h.output, Nat.le_trans h.size k.size, fun i h1 h2 h3 => (k.block i h1 h2 (Nat.lt_of_lt_of_le h3 h.size)).trans (h.block i h1 h2 h3)⟩
theorem Kq.mo {B mb p : Nat} {X Y : World} (h : Mo mb X Y) (hp : mb ≤ p) : Kq B mb p X Y := ⟨h.os, h.tape, h.output, h.size, fun k _ h2 hk => h.block k hk (by simp; omega)⟩
theorem Kq.ev {B mb p : Nat} {X Y : World} (h : Ev X Y) (hp : mb ≤ p) : Kq B mb p X Y := Kq.mo (Mo.ev h) hp
theorem Kq.grown {B mb p : Nat} {X Y : World} {row : Option Nat} (hg : X.grownBy Y row) (hr : ∀ k, row = some k → B ≤ k) : Kq B mb p X Y :=
 ⟨hg.os, hg.tape, hg.output, hg.size, fun k h1 _ h3 => hg.block k h3 (fun e => by have := hr k e.symm; omega)⟩
theorem Kq.setCell {B mb p : Nat} (X : World) (j : Nat) (v : Value) (hp : mb ≤ p) : Kq B mb p X (X.setCell ⟨p, j, none⟩ v) :=
 ⟨rfl, rfl, rfl, by simp [World.setCell], fun k _ h2 _ => Below.heap_setCell _ _ _ _ (by simp; omega)⟩

set_option maxRecDepth 100000 in
set_option maxHeartbeats 1000000 in
theorem start2_c (f : M.Cf) (Aw At Ar : Option Addr) (nw cw nt ct nr cr : Nat) (w : World) :
  Calls Try.prog 67 #[.agg #[.int .i64 f.last, .int .i64 f.size, .int .i64 f.cool, .int .i64 f.die, .int .i64 f.burn, .int .i64 f.st.lo, .int .i64 f.st.hi, .slice Aw nw cw, .slice At nt ct, .slice Ar nr cr]] w fun e w' => (∃ p mb, p = mb + 1 ∧ e = .returned (.pointer (some ⟨p, 0, none⟩)) ∧ w.heap.size ≤ p ∧ w.heap.size ≤ mb ∧ w'.heap[p]? = some (.cells #[.int .i64 f.last, .int .i64 f.size, .int .i64 f.cool, .int .i64 f.die, .int .i64 f.burn, .int .i64 f.st.lo, .int .i64 f.st.hi, .slice Aw nw cw, .slice At nt ct, .slice Ar nr cr, .slice none 0 0, .slice none 0 0, .map (some mb)] 136 (0, 0)) ∧ MapIs Try.prog 139 w' mb (fun _ => none)) ∧ Ev w w' := by
 have hmm := @run_makeMap Try.prog
 go_enter Try.func67, Try.ntmps67
 go_wp2
 go_ret
 refine ⟨⟨_, _, ?_, rfl, ?_, ?_, (alloc3 w _ _ _).2.2.1, ?_⟩, Ev.alloc (Ev.alloc (Ev.alloc (Ev.refl _) _) _) _⟩
 ·
  first | rfl | (simp; done) | (simp; omega) | omega
 ·
  first | (simp; done) | (simp; omega) | omega
 ·
  exact Nat.le_succ _
 ·
  have h1 := MapIs.new Try.prog 139 (w.alloc (.cells #[.int .i64 f.last, .int .i64 f.size, .int .i64 f.cool, .int .i64 f.die, .int .i64 f.burn, .int .i64 f.st.lo, .int .i64 f.st.hi, .slice Aw nw cw, .slice At nt ct, .slice Ar nr cr] 40))
  have h2 := h1.keep (Ev.alloc (Ev.refl _) (.cells #[.int .i64 f.last, .int .i64 f.size, .int .i64 f.cool, .int .i64 f.die, .int .i64 f.burn, .int .i64 f.st.lo, .int .i64 f.st.hi, .slice Aw nw cw, .slice At nt ct, .slice Ar nr cr, .slice none 0 0, .slice none 0 0, .map (some (w.heap.size + 1))] 136)) (by simp)
  simpa using h2

set_option maxRecDepth 100000 in
set_option maxHeartbeats 8000000 in
theorem open_in (f : M.Cf) (Aw At Ar : Option Addr) (nw cw nt ct nr cr : Nat) (hv : M.valid f = true) (hl9 : f.last ≤ 9) (hct : M.tooMany (M.ranges f) 1 = false) (hl5 : nr ≤ 5) (w : World) (hs : CS w w.heap.size f Aw At Ar nw cw nt ct nr cr) :
  CallsIn Fence.wide 9 Try.prog 80 #[.agg #[.int .i64 f.last, .int .i64 f.size, .int .i64 f.cool, .int .i64 f.die, .int .i64 f.burn, .int .i64 f.st.lo, .int .i64 f.st.hi, .slice Aw nw cw, .slice At nt ct, .slice Ar nr cr]] w fun e w' => (∃ Ts Ss ns cs ms ds p mb, e = .returned (.pointer (some ⟨p, 0, none⟩)) ∧ Wc w' f Aw At Ar nw cw nt ct nr cr Ts Ss ns cs ms ds p mb w.heap.size (M.truths f) (M.stands f)) ∧ Ev w w' := by
 have hdd : ∀ k : Nat, (Fence.wide.depth.isSome = true → 1 ≤ k) := fun k h => by cases h
 have hst := fun W' => (callsIn_wide (n := 8)).2 (start2_c f Aw At Ar nw cw nt ct nr cr W')
 have hat := fun W' => (callsIn_wide (n := 8)).2 (allTruths_c f Aw At Ar nw cw nt ct nr cr W')
 have HST := hid hst
 have HAT := hid hat
 clear hst hat
 refine callsIn_of_wp_marks Try.func80 rfl trivial ?_ rfl
 simp only [Try.ntmps80, List.size_toArray, List.length_cons, List.length_nil, Nat.reduceAdd, Nat.reduceSub, Array.replicate_succ, Array.replicate_zero, List.push_toArray, List.append_toArray, List.nil_append, List.cons_append]
 gi_wp2_with (first | ((try refine ⟨trivial, ?_⟩); (try refine ⟨trivial, hdd _, ?_⟩); (try refine ⟨hdd _, ?_⟩); gi_at_call 67; with_reducible refine (HST.out _).mono ?_; rintro e w1 ⟨⟨p, mb, hpmb, rfl, hp0, hm0, hpc, hmi⟩, hE1⟩; have hpw1 := heap_lt hpc; have hq1 := alloc1 w1 (.cells #[.pointer (some ⟨p, 0, none⟩)] 110); have hpc1 := heap_old (.cells #[.pointer (some ⟨p, 0, none⟩)] 110) hpc; obtain ⟨y0, y1, y2, y3, y4, y5, y6, y7, y8, y9, y10, y11, y12⟩ := cells13 hpc1; have HPC := hid hpc1; have HQ1 := hid hq1.1; have HQ2 := hid hq1.2; have HMI := hid hmi; have HPMB := hid hpmb; clear hq1 hpc hpc1 hmi hpmb) | ((try refine ⟨trivial, ?_⟩); (try refine ⟨trivial, hdd _, ?_⟩); (try refine ⟨hdd _, ?_⟩); gi_at_call 110; with_reducible refine (HAT.out _).mono ?_; rintro e w3 ⟨rfl, hE3, hfp⟩))
 have hp0' : w.heap.size + 1 ≤ p := by simpa using hp0
 have hm0' : w.heap.size + 1 ≤ mb := by simpa using hm0
 have hz2 := HQ2.out
 rw [hz2] at hfp
 have hE13 : Ev w1 w3 := (Ev.alloc (Ev.refl _) _).trans hE3
 have hE01 : Ev w w1 := Ev.trans (Ev.alloc (Ev.refl _) _) hE1
 have hEW3 : Ev w w3 := hE01.trans hE13
 have HP3 := hid (hE3.heap HPC.out)
 have HQ3 := hid (hE3.heap HQ1.out)
 have HM3 := hid (HMI.out.keep hE13 HMI.out.lt)
 have hfpl := heap_lt hfp
 have hpl := heap_lt HP3.out
 have hpm := map_ne HM3.out HP3.out
 have hql := heap_lt HQ3.out
 have hs13 := hE13.size
 have hs01 := hE01.size
 have hml := HM3.out.lt
 have hmp : mb ≤ p := by have := HPMB.out; omega
 have hpm1 : p ≤ mb + 1 := by have := HPMB.out; omega
 have hmax := M.truths_few hv hct
 have hall := M.allTruths_len hv
 have hvp := M.valid_parts hv
 have hlk : ∀ x ∈ f.rds, (0 ≤ x.hr ∧ x.hr ≤ 9) ∧ (0 ≤ x.sn ∧ x.sn ≤ 1000) ∧ 0 ≤ x.er ∧ x.er ≤ 50 := fun x hx => by
  have := hvp.2.2.2.2.2.2.2.2 x hx
  unfold M.validRd M.hasHour M.holds at this
  simp only [Bool.and_eq_true, decide_eq_true_eq] at this
  omega
 have HPL := hid (fun (TW : Option Addr) (tw twc : Nat) (Ts Ss : Option Addr) (ns cs ms ds : Nat) (t : M.Tr) (ht : t ∈ M.allTruths f) g (hg : Loads f g) W' (hE : Ev w W') (hh : W'.heap[p]? = some (.cells #[.int .i64 f.last, .int .i64 f.size, .int .i64 f.cool, .int .i64 f.die, .int .i64 f.burn, .int .i64 f.st.lo, .int .i64 f.st.hi, .slice Aw nw cw, .slice At nt ct, .slice Ar nr cr, .slice Ts ns cs, .slice Ss ms ds, .map (some mb)] 136 (0, 0))) (hm : MapIs Try.prog 139 W' mb g) (hw : Sl ics 1 W' W'.heap.size TW tw twc t.wet) => (callsIn_wide (n := 6)).2 (play_c f Aw At Ar nw cw nt ct nr cr Ts Ss ns cs ms ds p mb TW tw twc t At nt ct f.turns hv hl9 ((M.mem_allTruths f t).1 ht) g hg W' hh hm hw (hs.t.ev hE)))
 have HSH := hid (fun (x : List Int) (hx : x.length = 10) W' (hE : Ev w W') => show CallsIn Fence.wide 6 Try.prog 69 #[sv x, .slice Ar nr cr] W' fun e w' => e = .returned (.bool (f.rds.all (M.shows x))) ∧ Ev W' w' by
  obtain ⟨a0, a1, a2, a3, a4, a5, a6, a7, a8, a9, rfl⟩ := list10 hx
  exact (callsIn_wide (n := 6)).2 (showAll_c a0 a1 a2 a3 a4 a5 a6 a7 a8 a9 Ar nr cr f.rds hlk W' (hs.r.ev hE)))
 have HW10 := hid (fun (t : M.Tr) (ht : t ∈ M.allTruths f) => (M.heats_len (by have := hall t ht; omega) : (M.own f t).length = 10))
 have HWB := hid (fun (t : M.Tr) (ht : t ∈ M.allTruths f) => (M.heats_bd hv hl9 ((M.mem_allTruths f t).1 ht) f.turns : ∀ y ∈ M.own f t, 0 ≤ y ∧ y ≤ 900))
 have HMAX := hid hmax
 have HALL := hid hall
 have hs3 := hs.ev hEW3
 clear hz2 hall hvp hlk hmax HPC HQ1 HQ2 HMI HPMB y0 y1 y2 y3 y4 y5 y6 y7 y8 y9 y10 y11 y12
 have HBD := hid (fun (x : M.Tr) (hx : x ∈ M.allTruths f) => (by have := M.allTruths_len hv x hx; omega : x.wet.length ≤ 10))
 refine rangeY (F := Fence.wide) (n := 9) rfl (by omega) (gf := 126) (lb := #[.pointer (some ⟨w1.heap.size + 1, 0, none⟩)]) rfl trivial (fun args w => Try.call126 args w)
  (truths_seq 4 f Aw At Ar nw cw nt ct nr cr (w1.heap.size + 1) hv hl9 w3 hs3 hfp) (Below.refl _ _) (fun k hk => hk.elim) (fun A' B' x av X h => by obtain ⟨B2, d2, n2, rfl, _⟩ := h; rfl)
  (fun A' B' x av X Y h hsz hr hk => by
   obtain ⟨B2, d2, n2, rfl, h2, h4⟩ := h
   obtain ⟨r, hr⟩ := hr
   exact ⟨B2, d2, n2, rfl, own_keep h2 hr hk, h4⟩)
  (fun B pre X => Bar mb (p + 1) w3 X ∧ (∃ g, Loads f g ∧ MapIs Try.prog 139 X mb g) ∧ ∃ v1 v2 vs, Hid (X.heap[p]? = some (.cells #[.int .i64 f.last, .int .i64 f.size, .int .i64 f.cool, .int .i64 f.die, .int .i64 f.burn, .int .i64 f.st.lo, .int .i64 f.st.hi, .slice Aw nw cw, .slice At nt ct, .slice Ar nr cr, v1, v2, .map (some mb)] 136 (0, 0))) ∧ X.ownsRow B 42 2 v1 (pre.filter (M.right f)).length (vs.flatMap thc) ∧ TRows B X vs (pre.filter (M.right f)) ∧ X.ownsRow B 109 10 v2 (M.stK f [] pre).length ((M.stK f [] pre).flatMap scs))
  (fun _ _ _ _ => False)
  (fun B t a' X => ∃ (q : Nat) (v : Td), B ≤ q ∧ Hid (X.heap[q]? = some (.cells #[.int .i64 v.1, .slice v.2.1 v.2.2.1 v.2.2.2] 42 (0, 0))) ∧ TRow B X v t ∧ (∃ v1 v2, Hid (X.heap[p]? = some (.cells #[.int .i64 f.last, .int .i64 f.size, .int .i64 f.cool, .int .i64 f.die, .int .i64 f.burn, .int .i64 f.st.lo, .int .i64 f.st.hi, .slice Aw nw cw, .slice At nt ct, .slice Ar nr cr, v1, v2, .map (some mb)] 136 (0, 0))) ∧ v1.ownBlock ≠ some q) ∧ a' = { tmps := #[.agg #[.int .i64 f.last, .int .i64 f.size, .int .i64 f.cool, .int .i64 f.die, .int .i64 f.burn, .int .i64 f.st.lo, .int .i64 f.st.hi, .slice Aw nw cw, .slice At nt ct, .slice Ar nr cr], .pointer (some ⟨w.heap.size, 0, none⟩), .pointer none, .pointer (some ⟨w1.heap.size, 0, none⟩), .pointer (some ⟨q, 0, none⟩), undef, undef, .agg #[.int .i64 f.last, .int .i64 f.size, .int .i64 f.cool, .int .i64 f.die, .int .i64 f.burn, .int .i64 f.st.lo, .int .i64 f.st.hi, .slice Aw nw cw, .slice At nt ct, .slice Ar nr cr], .pointer (some ⟨p, 0, none⟩), .pointer (some ⟨p, 0, none⟩), .pointer (some ⟨p, 0, none⟩), .pointer (some ⟨p, 0, none⟩), .agg #[.int .i64 f.last, .int .i64 f.size, .int .i64 f.cool, .int .i64 f.die, .int .i64 f.burn, .int .i64 f.st.lo, .int .i64 f.st.hi, .slice Aw nw cw, .slice At nt ct, .slice Ar nr cr], .func (.func 126) #[] #[.pointer (some ⟨w1.heap.size + 1, 0, none⟩)], .agg #[.int .i64 v.1, .slice v.2.1 v.2.2.1 v.2.2.2], undef, undef, undef, undef, undef, undef, undef, undef, undef, undef, undef, undef, undef, undef, undef, undef, undef, undef, undef, undef, undef, undef, undef, undef, undef, undef, undef, undef, undef, undef, undef, undef, undef, undef, undef, undef, undef, undef, undef, undef, undef, undef, undef, undef, undef, undef, undef, undef, undef, undef, undef, undef, undef, undef, undef], defers := [] }) ?hI (fun _ _ _ _ _ _ h _ => h) ?hAx ?h0 ?assign ?body ?done ?stop
 case hI =>
  rintro B s x y hB ⟨h1, ⟨g, hg, hm⟩, v1, v2, vs, h2, h3, h4, h5⟩ hb
  refine ⟨⟨hb.os.trans h1.os, hb.tape.trans h1.tape, hb.output.trans h1.output, Nat.le_trans h1.size hb.size, fun j hj hn => (hb.block j (by have := h1.size; omega) (by omega)).trans (h1.block j hj hn)⟩, ⟨g, hg, hm.same (hb.block mb hm.lt (by omega))⟩, v1, v2, vs, hid ((hb.block _ (heap_lt h2.out) (by omega)).trans h2.out), ownsRow_bar h3 hb, h4.imp fun _ _ _ h => ownsRow_bar h hb, ownsRow_bar h5 hb⟩
 case hAx =>
  rintro a' B s x y hB ⟨q, v, hq, hc, hr, ⟨v1, v2, hp1, hp2⟩, ha⟩ hb
  exact ⟨q, v, hq, hid ((hb.block q (heap_lt hc.out) (by omega)).trans hc.out), hr.imp fun _ _ _ h => ownsRow_bar h hb, ⟨v1, v2, hid ((hb.block p (heap_lt hp1.out) (by omega)).trans hp1.out), hp2⟩, ha⟩
 case h0 =>
  intro X hX
  exact ⟨Bar.ev hX, ⟨_, fun k v h => by simp at h, HM3.out.keep hX HM3.out.lt⟩, .slice none 0 0, .slice none 0 0, [], hid (hX.heap HP3.out), World.ownsRow_nil _ _ _ _, TRows.nil _ _, World.ownsRow_nil _ _ _ _⟩
 case assign =>
  intro l B pre t av X K hB hBX hI hx hK
  obtain ⟨B2, d2, n2, rfl, h2, h4⟩ := hx
  have HK := hid hK
  have H2 := hid h2
  obtain ⟨_, _, u1, u2, us, hu1, hu2, _⟩ := hI
  have HU1 := hid hu1.out
  have HU2 := hid (fun e => Nat.lt_irrefl _ ((hu2.lt X.heap.size e).2) : u1.ownBlock ≠ some X.heap.size)
  clear hK h2 hu1 hu2
  gi_wp2
  exact HK.out _ _ (Ev.alloc (Ev.refl _) _) ⟨X.heap.size, (t.st, (B2, n2, d2)), hBX, hid (alloc1 X _).1, ⟨rfl, H2.out.ev (Ev.alloc (Ev.refl _) _), h4⟩, ⟨u1, u2, hid (heap_old _ HU1.out), HU2.out⟩, rfl⟩
 case body =>
  rintro l B pre t av a' X hB hBX ⟨hbar, ⟨g, hgl, hgm⟩, v1, v2, vs, hwb, hr1, hr2, hr3⟩ ⟨q, v, hq, hc, hrt, ⟨u1, u2, hu1, hu2⟩, rfl⟩ hx hpre
  clear hx
  have huv : u1 = v1 := by
   have h := hu1.out
   rw [hwb.out] at h
   simp at h
   exact h.1.symm
  rw [huv] at hu2
  have HU2 := hid hu2
  clear hu1 hu2 huv
  have htm : t ∈ M.allTruths f := hpre.subset (by simp)
  have hpm' : ∀ u ∈ pre, u ∈ M.allTruths f := fun u hu => hpre.subset (by simp [hu])
  have hprel : pre.length + 1 ≤ 2000 := Nat.le_trans (by have := hpre.length_le; simpa using this) HMAX.out
  have hs10 := M.stK_10 f [] pre (by simp) (fun u hu => HBD.out u (hpm' u hu))
  have hsbd := M.stK_bd f 900 [] pre (by simp) (fun u hu => HWB.out u (hpm' u hu))
  have hwbd := HWB.out t htm
  have hn1b : (pre.filter (M.right f)).length ≤ pre.length := List.length_filter_le _ _
  have hn2b : (M.stK f [] pre).length ≤ pre.length := by have := M.stK_len f [] pre; simpa using this
  have hXs := hbar.size
  have hEX0 : Ev w X := Below.trans hEW3 (hbar.below (by omega) (by omega))
  have hEX : Ev w X := Below.trans hEW3 (hbar.below (by omega) (by omega))
  have HPW := hid ((hbar.block _ hql (by omega)).trans HQ3.out)
  have hpwl := heap_lt HPW.out
  have hwl := heap_lt hwb.out
  have hqX := heap_lt hc.out
  have hmX := hgm.lt
  have nw1 := map_ne hgm HPW.out
  have nwp := map_ne hgm hwb.out
  have nwq := map_ne hgm hc.out
  generalize hn1 : (pre.filter (M.right f)).length = n1 at hr1 hn1b
  generalize hn2 : (M.stK f [] pre).length = n2 at hr3 hn2b
  obtain ⟨V1, c1, rfl⟩ := own_form hr1
  obtain ⟨V2, c2, rfl⟩ := own_form hr3
  have hsg := sl_own (enc := ics) (by decide) (ics_len _) (by have := hrt.2.2; omega) hrt.2.1
  have HWTt := hid (fun W' hE hh hm hw => CallsIn.inRound l (HPL.out v.2.1 v.2.2.1 v.2.2.2 V1 V2 n1 c1 n2 c2 t htm g hgl W' hE hh hm hw))
  rw [← hrt.1] at HWTt
  have hw10 := HW10.out t htm
  have HNW := hid (show M.stK f [] (pre ++ [t]) = if (M.stK f [] pre).getLast? = some (M.own f t) then M.stK f [] pre else M.stK f [] pre ++ [M.own f t] from M.stK_snoc f [] pre t)
  have HRT := hid (show M.right f t = f.rds.all (M.shows (M.own f t)) from rfl)
  obtain ⟨a0, a1, a2, a3, a4, a5, a6, a7, a8, a9, hwt⟩ := list10 hw10
  rw [hwt] at hwbd
  have HWV := hid (show M.own f t = [a0, a1, a2, a3, a4, a5, a6, a7, a8, a9] from hwt)
  have HWH := hid (show M.heats f t f.turns = [a0, a1, a2, a3, a4, a5, a6, a7, a8, a9] from hwt)
  have HN1 := hid hn1
  have HN2 := hid hn2
  have HR1 := hid hr1
  have HR2 := hid hr2
  have HR3 := hid hr3
  have HRTt := hid hrt
  have HPRE := hid hpre
  have HSG := hid hsg
  have HS10 := hid hs10
  have HSBD := hid hsbd
  have HWBD := hid hwbd
  have HGM := hid hgm
  have x0 := cell_in HPW.out 0
  simp only [List.getElem?_toArray, List.getElem?_cons_zero] at x0
  obtain ⟨k0, k1, k2, k3, k4, k5, k6, k7, k8, k9, k10, k11, k12⟩ := cells13 hwb.out
  obtain ⟨z0, z1⟩ := cells2 hc.out
  have HSE : Hid (∀ w', Mo mb X w' → (∀ o, w'.cell? ⟨w1.heap.size, o, none⟩ = X.cell? ⟨w1.heap.size, o, none⟩) ∧ (∀ o, w'.cell? ⟨p, o, none⟩ = X.cell? ⟨p, o, none⟩) ∧ (∀ o, w'.cell? ⟨q, o, none⟩ = X.cell? ⟨q, o, none⟩)) := hid (fun w' h => ⟨fun o => h.cells.1 _ o hpwl nw1, fun o => h.cells.1 _ o hwl nwp, fun o => h.cells.1 _ o hqX nwq⟩)
  clear hn1 hn2 hr1 hr2 hr3 hrt hpre hsg hwt hs10 hsbd hwbd hw10 htm hpm' hgm
  gi_wp2
  gi_cut [5] from 15 (fun u Y => ∃ r : Nat, u = .pointer (some ⟨r, 0, none⟩) ∧ Mo mb X Y ∧ X.heap.size ≤ r ∧ Y.heap[r]? = some (.cells #[.int .i64 a0, .int .i64 a1, .int .i64 a2, .int .i64 a3, .int .i64 a4, .int .i64 a5, .int .i64 a6, .int .i64 a7, .int .i64 a8, .int .i64 a9] 109 (0, 0)) ∧ (∃ g, Loads f g ∧ MapIs Try.prog 139 Y mb g))
  case first =>
   refine wp_region_R (l := l) (S := fun w' => (∀ o, w'.cell? ⟨w1.heap.size, o, none⟩ = X.cell? ⟨w1.heap.size, o, none⟩) ∧ (∀ o, w'.cell? ⟨p, o, none⟩ = X.cell? ⟨p, o, none⟩) ∧ (∀ o, w'.cell? ⟨q, o, none⟩ = X.cell? ⟨q, o, none⟩)) (by kernel_rfl) rfl (⟨fun o => rfl, fun o => rfl, fun o => rfl⟩) (fun hHeld => ?_)
   refine wpAnyR_takeD (i := 0) (v := ?_) (some 15) rfl rfl (by kernel_rfl) (by kernel_rfl) (by kernel_rfl) (fun _ _ _ h => h) (Or.inl ⟨by rfl, ?hy⟩) (by assumption) ?_
   case hy => (intro w hSw; (try dsimp only at hSw); go_simp; with_reducible rfl)
   (try simp only [Act.put, List.setIfInBounds_toArray, List.set_cons_zero, List.set_cons_succ])
   refine wpAnyR_takeD (i := 1) (v := ?_) (some 16) rfl rfl (by kernel_rfl) (by kernel_rfl) (by kernel_rfl) (fun _ _ _ h => h) (Or.inl ⟨by rfl, ?hy⟩) (by assumption) ?_
   case hy => (intro w hSw; (try dsimp only at hSw); go_simp; with_reducible rfl)
   (try simp only [Act.put, List.setIfInBounds_toArray, List.set_cons_zero, List.set_cons_succ])
   refine wpAnyR_takeD (i := 2) (v := ?_) (some 17) rfl rfl (by kernel_rfl) (by kernel_rfl) (by kernel_rfl) (fun _ _ _ h => h) (Or.inl ⟨by rfl, ?hy⟩) (by assumption) ?_
   case hy => (intro w hSw; (try dsimp only at hSw); go_simp; with_reducible rfl)
   (try simp only [Act.put, List.setIfInBounds_toArray, List.set_cons_zero, List.set_cons_succ])
   refine wpAnyR_takeD (i := 3) (v := ?_) (some 18) rfl rfl (by kernel_rfl) (by kernel_rfl) (by kernel_rfl) (fun _ _ _ h => h) (Or.inl ⟨by rfl, ?hy⟩) (by assumption) ?_
   case hy => (intro w hSw; (try dsimp only at hSw); go_simp; with_reducible rfl)
   (try simp only [Act.put, List.setIfInBounds_toArray, List.set_cons_zero, List.set_cons_succ])
   refine wpAnyR_takeD (i := 4) (v := ?_) (some 19) rfl rfl (by kernel_rfl) (by kernel_rfl) (by kernel_rfl) (fun _ _ _ h => h) (Or.inl ⟨by rfl, ?hy⟩) (by assumption) ?_
   case hy => (intro w hSw; (try dsimp only at hSw); go_simp; with_reducible rfl)
   (try simp only [Act.put, List.setIfInBounds_toArray, List.set_cons_zero, List.set_cons_succ])
   refine wpAnyR_takeD (i := 5) (v := ?_) (some 20) rfl rfl (by kernel_rfl) (by kernel_rfl) (by kernel_rfl) (fun _ _ _ h => h) (Or.inl ⟨by rfl, ?hy⟩) (by assumption) ?_
   case hy => (intro w hSw; (try dsimp only at hSw); go_simp; with_reducible rfl)
   (try simp only [Act.put, List.setIfInBounds_toArray, List.set_cons_zero, List.set_cons_succ])
   refine wpAnyR_takeD (i := 6) (v := ?_) (some 21) rfl rfl (by kernel_rfl) (by kernel_rfl) (by kernel_rfl) (fun _ _ _ h => h) (Or.inl ⟨by rfl, ?hy⟩) (by assumption) ?_
   case hy => (intro w hSw; (try dsimp only at hSw); go_simp; with_reducible rfl)
   (try simp only [Act.put, List.setIfInBounds_toArray, List.set_cons_zero, List.set_cons_succ])
   refine wpAnyR_two (i := 7) (j := 8) rfl rfl (by kernel_rfl) (by rfl) (by rfl) (fun K hK => ?_) (fun K hK => ?_)
   ·
    go_simp
    refine CallsIn.mono (HWTt.out _ (hEX.trans (Ev.drew (Ev.refl _))) hwb.out (HGM.out.same rfl) (HSG.out.ev (Ev.drew (Ev.refl _)))) ?_
    rintro e Y1 ⟨rfl, ⟨g1, hg1, hm1⟩, hb1⟩
    rw [HWH.out]
    have hE3' : Mo mb X Y1 := (Mo.drew (Mo.refl mb X)).trans hb1
    have HG1 := hid hg1
    have HM1 := hid hm1
    clear hg1 hm1
    refine hK.out _ _ (HSE.out _ hE3') (fun hHeld => ?_)
    clear hK K
    (try simp only [Act.put, List.setIfInBounds_toArray, List.set_cons_zero, List.set_cons_succ])
    refine wpAnyR_one (i := 8) rfl (by kernel_rfl) (by rfl) (fun K hK => ?_)
    go_simp
    refine hK.out _ _ (HSE.out _ (hE3'.alloc _)) (fun hHeld => ?_)
    clear hK K
    (try simp only [Act.put, List.setIfInBounds_toArray, List.set_cons_zero, List.set_cons_succ])
    refine wpAnyR_one (i := 9) rfl (by kernel_rfl) (by rfl) (fun K hK => ?_)
    simp only [sv, List.map_cons, List.map_nil]
    go_simp
    refine hK.out _ _ (HSE.out _ (hE3'.alloc _)) (fun hHeld => ?_)
    clear hK K
    (try simp only [Act.put, List.setIfInBounds_toArray, List.set_cons_zero, List.set_cons_succ])
    refine wpAnyR_done (by kernel_rfl) ?_ _
    gi_wp2_with fail
    gi_meet
    exact ⟨Y1.heap.size, rfl, hE3'.alloc _, hE3'.size, (alloc1 Y1 _).1, g1, HG1.out, HM1.out.keep (Ev.alloc (Ev.refl _) _) HM1.out.lt⟩
   ·
    go_simp
    refine hK.out _ _ (HSE.out _ ((Mo.drew (Mo.refl mb X)).alloc _)) (fun hHeld => ?_)
    clear hK K
    (try simp only [Act.put, List.setIfInBounds_toArray, List.set_cons_zero, List.set_cons_succ])
    refine wpAnyR_one (i := 7) rfl (by kernel_rfl) (by rfl) (fun K hK => ?_)
    go_simp
    have hEa : Ev X (World.alloc X.drew (.cells #[.int .i64 0, .int .i64 0, .int .i64 0, .int .i64 0, .int .i64 0, .int .i64 0, .int .i64 0, .int .i64 0, .int .i64 0, .int .i64 0] 109)) := Ev.alloc (Ev.drew (Ev.refl _)) _
    refine CallsIn.mono (HWTt.out _ (hEX.trans hEa) (hEa.heap hwb.out) (HGM.out.keep hEa HGM.out.lt) (HSG.out.ev hEa)) ?_
    rintro e Y1 ⟨rfl, ⟨g1, hg1, hm1⟩, hb1⟩
    rw [HWH.out]
    have hE3' : Mo mb X Y1 := (Mo.ev hEa).trans hb1
    have hne : X.heap.size ≠ mb := by omega
    have hA : Y1.heap[X.heap.size]? = some (.cells #[.int .i64 0, .int .i64 0, .int .i64 0, .int .i64 0, .int .i64 0, .int .i64 0, .int .i64 0, .int .i64 0, .int .i64 0, .int .i64 0] 109 (0, 0)) := hb1.heap (alloc1 X.drew _).1 hne
    obtain ⟨d0, d1, d2, d3, d4, d5, d6, d7, d8, d9⟩ := cells10 hA
    obtain ⟨f0, f1, f2, f3, f4, f5, f6, f7, f8, f9⟩ := frz10 hA
    have HA := hid hA
    have HG1 := hid hg1
    have HM1 := hid hm1
    clear hA hg1 hm1
    refine hK.out _ _ (HSE.out _ hE3') (fun hHeld => ?_)
    clear hK K
    (try simp only [Act.put, List.setIfInBounds_toArray, List.set_cons_zero, List.set_cons_succ])
    refine wpAnyR_one (i := 9) rfl (by kernel_rfl) (by rfl) (fun K hK => ?_)
    simp only [sv, List.map_cons, List.map_nil]
    go_simp
    have hE5 := Mo.set10 (b := X.heap.size) (v0 := .int .i64 a0) (v1 := .int .i64 a1) (v2 := .int .i64 a2) (v3 := .int .i64 a3) (v4 := .int .i64 a4) (v5 := .int .i64 a5) (v6 := .int .i64 a6) (v7 := .int .i64 a7) (v8 := .int .i64 a8) (v9 := .int .i64 a9) hE3' (Nat.le_refl _)
    refine hK.out _ _ (HSE.out _ hE5) (fun hHeld => ?_)
    clear hK K
    (try simp only [Act.put, List.setIfInBounds_toArray, List.set_cons_zero, List.set_cons_succ])
    refine wpAnyR_done (by kernel_rfl) ?_ _
    gi_wp2_with fail
    gi_meet
    exact ⟨X.heap.size, rfl, hE5, Nat.le_refl _, set10 HA.out, g1, HG1.out, MapIs.set10 HM1.out (Ne.symm hne)⟩
  case rest =>
   obtain ⟨r, rfl, hE4, hr0, hC4, g4, hg4, hm4⟩ := hcut
   obtain ⟨Y1, hY1⟩ : ∃ x, x = wc := ⟨_, rfl⟩
   subst hY1
   have HC4 := hid hC4
   have HG4 := hid hg4
   have HM4 := hid hm4
   have HPW4 := hid (hE4.heap HPW.out nw1)
   have HWB4 := hid (hE4.heap hwb.out nwp)
   have HQ4 := hid (hE4.heap hc.out nwq)
   have HR3' := hid (own_mo HR3.out HGM.out hE4)
   have hEY : Ev w Y1 := Mo.evr hEX hE4 (by omega)
   have hY1s := hE4.size
   have x4 := cell_in HPW4.out 0
   simp only [List.getElem?_toArray, List.getElem?_cons_zero] at x4
   obtain ⟨j0, j1, j2, j3, j4, j5, j6, j7, j8, j9, j10, j11, j12⟩ := cells13 HWB4.out
   obtain ⟨m0, m1, m2, m3, m4, m5, m6, m7, m8, m9⟩ := cells10 hC4
   have lpw := heap_lt HPW4.out
   have lwb := heap_lt HWB4.out
   have lq := heap_lt HQ4.out
   have lr := heap_lt HC4.out
   have hpwB : w1.heap.size < B := by omega
   have hpB : p < B := by omega
   have h2s := sl_own (enc := scs) (sz := 10) (by decide) (fun y hy => by have := HS10.out y hy; simpa [scs] using this) (by omega) HR3'.out
   clear hC4 hg4 hm4 x0 k0 k1 k2 k3 k4 k5 k6 k7 k8 k9 k10 k11 k12 z0 z1 HSE HSG hEX
   obtain ⟨nwb, hnb⟩ : ∃ nwb : Bool, decide (¬ (M.stK f [] pre).getLast? = some (M.own f t)) = nwb := ⟨_, rfl⟩
   have HNB := hid hnb
   clear hnb
   gi_wp2
   gi_cut [41] from 28 (fun u Y => u = .bool nwb ∧ Ev Y1 Y)
   case first =>
    by_cases hn0 : n2 = 0
    ·
     subst hn0
     have hnb1 : nwb = true := by
      rw [← HNB.out, List.eq_nil_of_length_eq_zero HN2.out]; simp
     have e0 : (((0 : Nat) : Int) == 0) = true := rfl
     refine wp_region_R (l := l) (S := fun _ => True) (by kernel_rfl) rfl (trivial) (fun hHeld => ?_)
     refine wpAnyR_takeD (i := 0) (v := ?_) (some 28) rfl rfl (by kernel_rfl) (by kernel_rfl) (by kernel_rfl) (fun _ _ _ h => h) (Or.inl ⟨by rfl, ?hy⟩) (by assumption) ?_
     case hy => (intro w hSw; (try dsimp only at hSw); go_simp; with_reducible rfl)
     (try simp only [Act.put, List.setIfInBounds_toArray, List.set_cons_zero, List.set_cons_succ])
     refine wpAnyR_takeD (i := 1) (v := ?_) (some 29) rfl rfl (by kernel_rfl) (by kernel_rfl) (by kernel_rfl) (fun _ _ _ h => h) (Or.inl ⟨by rfl, ?hy⟩) (by assumption) ?_
     case hy => (intro w hSw; (try dsimp only at hSw); go_simp; with_reducible rfl)
     (try simp only [Act.put, List.setIfInBounds_toArray, List.set_cons_zero, List.set_cons_succ])
     refine wpAnyR_takeD (i := 2) (v := ?_) (some 30) rfl rfl (by kernel_rfl) (by kernel_rfl) (by kernel_rfl) (fun _ _ _ h => h) (Or.inl ⟨by rfl, ?hy⟩) (by assumption) ?_
     case hy => (intro w hSw; (try dsimp only at hSw); go_simp; with_reducible rfl)
     (try simp only [Act.put, List.setIfInBounds_toArray, List.set_cons_zero, List.set_cons_succ])
     refine wpAnyR_skip (i := 3) (some 31) rfl (by kernel_rfl) (by kernel_rfl) (by kernel_rfl) (fun _ _ _ h => h) (by rfl) (by assumption) ?_
     (try simp only [Act.put, List.setIfInBounds_toArray, List.set_cons_zero, List.set_cons_succ])
     refine wpAnyR_skip (i := 4) (some 32) rfl (by kernel_rfl) (by kernel_rfl) (by kernel_rfl) (fun _ _ _ h => h) (by rfl) (by assumption) ?_
     (try simp only [Act.put, List.setIfInBounds_toArray, List.set_cons_zero, List.set_cons_succ])
     refine wpAnyR_skip (i := 5) (some 33) rfl (by kernel_rfl) (by kernel_rfl) (by kernel_rfl) (fun _ _ _ h => h) (by rfl) (by assumption) ?_
     (try simp only [Act.put, List.setIfInBounds_toArray, List.set_cons_zero, List.set_cons_succ])
     refine wpAnyR_skip (i := 6) (some 34) rfl (by kernel_rfl) (by kernel_rfl) (by kernel_rfl) (fun _ _ _ h => h) (by rfl) (by assumption) ?_
     (try simp only [Act.put, List.setIfInBounds_toArray, List.set_cons_zero, List.set_cons_succ])
     refine wpAnyR_skip (i := 7) (some 35) rfl (by kernel_rfl) (by kernel_rfl) (by kernel_rfl) (fun _ _ _ h => h) (by rfl) (by assumption) ?_
     (try simp only [Act.put, List.setIfInBounds_toArray, List.set_cons_zero, List.set_cons_succ])
     refine wpAnyR_skip (i := 8) (some 36) rfl (by kernel_rfl) (by kernel_rfl) (by kernel_rfl) (fun _ _ _ h => h) (by rfl) (by assumption) ?_
     (try simp only [Act.put, List.setIfInBounds_toArray, List.set_cons_zero, List.set_cons_succ])
     refine wpAnyR_skip (i := 9) (some 37) rfl (by kernel_rfl) (by kernel_rfl) (by kernel_rfl) (fun _ _ _ h => h) (by rfl) (by assumption) ?_
     (try simp only [Act.put, List.setIfInBounds_toArray, List.set_cons_zero, List.set_cons_succ])
     refine wpAnyR_skip (i := 10) (some 38) rfl (by kernel_rfl) (by kernel_rfl) (by kernel_rfl) (fun _ _ _ h => h) (by rfl) (by assumption) ?_
     (try simp only [Act.put, List.setIfInBounds_toArray, List.set_cons_zero, List.set_cons_succ])
     refine wpAnyR_skip (i := 11) (some 39) rfl (by kernel_rfl) (by kernel_rfl) (by kernel_rfl) (fun _ _ _ h => h) (by rfl) (by assumption) ?_
     (try simp only [Act.put, List.setIfInBounds_toArray, List.set_cons_zero, List.set_cons_succ])
     refine wpAnyR_skip (i := 12) (some 40) rfl (by kernel_rfl) (by kernel_rfl) (by kernel_rfl) (fun _ _ _ h => h) (by rfl) (by assumption) ?_
     (try simp only [Act.put, List.setIfInBounds_toArray, List.set_cons_zero, List.set_cons_succ])
     refine wpAnyR_takeD (i := 13) (v := ?_) (some 41) rfl rfl (by kernel_rfl) (by kernel_rfl) (by kernel_rfl) (fun _ _ _ h => h) (Or.inl ⟨by rfl, ?hy⟩) (by assumption) ?_
     case hy => (intro w hSw; (try dsimp only at hSw); go_simp; with_reducible rfl)
     (try simp only [Act.put, List.setIfInBounds_toArray, List.set_cons_zero, List.set_cons_succ])
     refine wpAnyR_done (by kernel_rfl) ?_ _
     gi_wp2_with fail
     gi_meet
     exact ⟨by rw [hnb1], Ev.drew (Ev.refl _)⟩
    ·
     have hlt2 : n2 - 1 < n2 := by omega
     obtain ⟨bq, oq, x2, rfl, hb2, hx2, _, hc2⟩ := h2s.at_ (Below.refl _ _) hlt2
     have hx10 := HS10.out x2 (List.mem_of_getElem? hx2)
     have hxb := HSBD.out x2 (List.mem_of_getElem? hx2)
     have heq := eqWt hx10 (y := [a0, a1, a2, a3, a4, a5, a6, a7, a8, a9]) rfl (fun z hz => Wf.of (by have := hxb z hz; omega)) (fun z hz => Wf.of (by have := HWBD.out z hz; omega))
     have hgl2 : (M.stK f [] pre).getLast? = some x2 := by rw [List.getLast?_eq_getElem?, HN2.out]; exact hx2
     have HBQ := hid (show nwb = !decide (x2 = [a0, a1, a2, a3, a4, a5, a6, a7, a8, a9]) by rw [← HNB.out, hgl2, HWV.out]; simp)
     obtain ⟨b0, b1, b2, b3, b4, b5, b6, b7, b8, b9, hxx⟩ := list10 hx10
     subst hxx
     have e0' := hc2 0 _ rfl
     have e1' := hc2 1 _ rfl
     have e2' := hc2 2 _ rfl
     have e3' := hc2 3 _ rfl
     have e4' := hc2 4 _ rfl
     have e5' := hc2 5 _ rfl
     have e6' := hc2 6 _ rfl
     have e7' := hc2 7 _ rfl
     have e8' := hc2 8 _ rfl
     have e9' := hc2 9 _ rfl
     simp only [Nat.add_zero] at e0'
     simp only [sv, List.map_cons, List.map_nil] at heq
     have hn20 : ((n2 : Int) == 0) = false := by simpa using hn0
     have s1 : IntKind.i64.wrap ((n2 : Int) - 1) = ((n2 - 1 : Nat) : Int) := by rw [show (n2 : Int) - 1 = ((n2 - 1 : Nat) : Int) from by omega]; exact IntWalk.i64_in _ (by omega)
     obtain ⟨n3, hn3⟩ : ∃ n3, n2 - 1 = n3 := ⟨_, rfl⟩
     rw [hn3] at s1 e0' e1' e2' e3' e4' e5' e6' e7' e8' e9'
     have n30 : (0 : Int) ≤ n3 := by omega
     have n32 : (n3 : Int) < n2 := by omega
     have hcap2 := h2s.cap
     generalize decide ([b0, b1, b2, b3, b4, b5, b6, b7, b8, b9] = [a0, a1, a2, a3, a4, a5, a6, a7, a8, a9]) = dq at heq HBQ
     clear hn3 hgl2 hx2 hc2 hx10 hxb
     have HSE : Hid (∀ w', Ev Y1 w' → (∀ o, w'.cell? ⟨w1.heap.size, o, none⟩ = Y1.cell? ⟨w1.heap.size, o, none⟩) ∧ (∀ o, w'.cell? ⟨p, o, none⟩ = Y1.cell? ⟨p, o, none⟩) ∧ (∀ o, w'.cell? ⟨r, o, none⟩ = Y1.cell? ⟨r, o, none⟩) ∧ (∀ o, w'.cell? ⟨bq, o, none⟩ = Y1.cell? ⟨bq, o, none⟩)) := hid (fun w' h => ⟨fun o => h.cells.1 _ o lpw, fun o => h.cells.1 _ o lwb, fun o => h.cells.1 _ o lr, fun o => h.cells.1 _ o hb2⟩)
     refine wp_region_R (l := l) (S := fun w' => (∀ o, w'.cell? ⟨w1.heap.size, o, none⟩ = Y1.cell? ⟨w1.heap.size, o, none⟩) ∧ (∀ o, w'.cell? ⟨p, o, none⟩ = Y1.cell? ⟨p, o, none⟩) ∧ (∀ o, w'.cell? ⟨r, o, none⟩ = Y1.cell? ⟨r, o, none⟩) ∧ (∀ o, w'.cell? ⟨bq, o, none⟩ = Y1.cell? ⟨bq, o, none⟩)) (by kernel_rfl) rfl (⟨fun o => rfl, fun o => rfl, fun o => rfl, fun o => rfl⟩) (fun hHeld => ?_)
     refine wpAnyR_takeD (i := 0) (v := ?_) (some 28) rfl rfl (by kernel_rfl) (by kernel_rfl) (by kernel_rfl) (fun _ _ _ h => h) (Or.inl ⟨by rfl, ?hy⟩) (by assumption) ?_
     case hy => (intro w hSw; (try dsimp only at hSw); go_simp; with_reducible rfl)
     (try simp only [Act.put, List.setIfInBounds_toArray, List.set_cons_zero, List.set_cons_succ])
     refine wpAnyR_takeD (i := 1) (v := ?_) (some 29) rfl rfl (by kernel_rfl) (by kernel_rfl) (by kernel_rfl) (fun _ _ _ h => h) (Or.inl ⟨by rfl, ?hy⟩) (by assumption) ?_
     case hy => (intro w hSw; (try dsimp only at hSw); go_simp; with_reducible rfl)
     (try simp only [Act.put, List.setIfInBounds_toArray, List.set_cons_zero, List.set_cons_succ])
     refine wpAnyR_takeD (i := 2) (v := ?_) (some 30) rfl rfl (by kernel_rfl) (by kernel_rfl) (by kernel_rfl) (fun _ _ _ h => h) (Or.inl ⟨by rfl, ?hy⟩) (by assumption) ?_
     case hy => (intro w hSw; (try dsimp only at hSw); go_simp; with_reducible rfl)
     (try simp only [Act.put, List.setIfInBounds_toArray, List.set_cons_zero, List.set_cons_succ])
     refine wpAnyR_takeD (i := 3) (v := ?_) (some 31) rfl rfl (by kernel_rfl) (by kernel_rfl) (by kernel_rfl) (fun _ _ _ h => h) (Or.inl ⟨by rfl, ?hy⟩) (by assumption) ?_
     case hy => (intro w hSw; (try dsimp only at hSw); go_simp; with_reducible rfl)
     (try simp only [Act.put, List.setIfInBounds_toArray, List.set_cons_zero, List.set_cons_succ])
     refine wpAnyR_takeD (i := 4) (v := ?_) (some 32) rfl rfl (by kernel_rfl) (by kernel_rfl) (by kernel_rfl) (fun _ _ _ h => h) (Or.inl ⟨by rfl, ?hy⟩) (by assumption) ?_
     case hy => (intro w hSw; (try dsimp only at hSw); go_simp; with_reducible rfl)
     (try simp only [Act.put, List.setIfInBounds_toArray, List.set_cons_zero, List.set_cons_succ])
     refine wpAnyR_takeD (i := 5) (v := ?_) (some 33) rfl rfl (by kernel_rfl) (by kernel_rfl) (by kernel_rfl) (fun _ _ _ h => h) (Or.inl ⟨by rfl, ?hy⟩) (by assumption) ?_
     case hy => (intro w hSw; (try dsimp only at hSw); go_simp; with_reducible rfl)
     (try simp only [Act.put, List.setIfInBounds_toArray, List.set_cons_zero, List.set_cons_succ])
     refine wpAnyR_takeD (i := 6) (v := ?_) (some 34) rfl rfl (by kernel_rfl) (by kernel_rfl) (by kernel_rfl) (fun _ _ _ h => h) (Or.inl ⟨by rfl, ?hy⟩) (by assumption) ?_
     case hy => (intro w hSw; (try dsimp only at hSw); go_simp; with_reducible rfl)
     (try simp only [Act.put, List.setIfInBounds_toArray, List.set_cons_zero, List.set_cons_succ])
     refine wpAnyR_takeD (i := 7) (v := ?_) (some 35) rfl rfl (by kernel_rfl) (by kernel_rfl) (by kernel_rfl) (fun _ _ _ h => h) (Or.inl ⟨by rfl, ?hy⟩) (by assumption) ?_
     case hy => (intro w hSw; (try dsimp only at hSw); go_simp; with_reducible rfl)
     (try simp only [Act.put, List.setIfInBounds_toArray, List.set_cons_zero, List.set_cons_succ])
     refine wpAnyR_takeD (i := 8) (v := ?_) (some 36) rfl rfl (by kernel_rfl) (by kernel_rfl) (by kernel_rfl) (fun _ _ _ h => h) (Or.inl ⟨by rfl, ?hy⟩) (by assumption) ?_
     case hy => (intro w hSw; (try dsimp only at hSw); go_simp; with_reducible rfl)
     (try simp only [Act.put, List.setIfInBounds_toArray, List.set_cons_zero, List.set_cons_succ])
     refine wpAnyR_takeD (i := 9) (v := ?_) (some 37) rfl rfl (by kernel_rfl) (by kernel_rfl) (by kernel_rfl) (fun _ _ _ h => h) (Or.inl ⟨by rfl, ?hy⟩) (by assumption) ?_
     case hy => (intro w hSw; (try dsimp only at hSw); go_simp; with_reducible rfl)
     (try simp only [Act.put, List.setIfInBounds_toArray, List.set_cons_zero, List.set_cons_succ])
     refine wpAnyR_takeD (i := 10) (v := ?_) (some 38) rfl rfl (by kernel_rfl) (by kernel_rfl) (by kernel_rfl) (fun _ _ _ h => h) (Or.inl ⟨by rfl, ?hy⟩) (by assumption) ?_
     case hy => (intro w hSw; (try dsimp only at hSw); go_simp; with_reducible rfl)
     (try simp only [Act.put, List.setIfInBounds_toArray, List.set_cons_zero, List.set_cons_succ])
     refine wpAnyR_takeD (i := 11) (v := ?_) (some 39) rfl rfl (by kernel_rfl) (by kernel_rfl) (by kernel_rfl) (fun _ _ _ h => h) (Or.inl ⟨by rfl, ?hy⟩) (by assumption) ?_
     case hy => (intro w hSw; (try dsimp only at hSw); go_simp; with_reducible rfl)
     (try simp only [Act.put, List.setIfInBounds_toArray, List.set_cons_zero, List.set_cons_succ])
     refine wpAnyR_takeD (i := 12) (v := ?_) (some 40) rfl rfl (by kernel_rfl) (by kernel_rfl) (by kernel_rfl) (fun _ _ _ h => h) (Or.inl ⟨by rfl, ?hy⟩) (by assumption) ?_
     case hy => (intro w hSw; (try dsimp only at hSw); go_simp; with_reducible rfl)
     (try simp only [Act.put, List.setIfInBounds_toArray, List.set_cons_zero, List.set_cons_succ])
     refine wpAnyR_takeD (i := 13) (v := ?_) (some 41) rfl rfl (by kernel_rfl) (by kernel_rfl) (by kernel_rfl) (fun _ _ _ h => h) (Or.inl ⟨by rfl, ?hy⟩) (by assumption) ?_
     case hy => (intro w hSw; (try dsimp only at hSw); go_simp; with_reducible rfl)
     (try simp only [Act.put, List.setIfInBounds_toArray, List.set_cons_zero, List.set_cons_succ])
     refine wpAnyR_done (by kernel_rfl) ?_ _
     gi_wp2_with fail
     gi_meet
     exact ⟨by rw [HBQ.out], Ev.drew (Ev.refl _)⟩
   case rest =>
    obtain ⟨rfl, hE6⟩ := hcut
    obtain ⟨Y2, hY2⟩ : ∃ x, x = wc := ⟨_, rfl⟩
    subst hY2
    have HPW6 := hid (hE6.heap HPW4.out)
    have HWB6 := hid (hE6.heap HWB4.out)
    have HQ6 := hid (hE6.heap HQ4.out)
    have HC6 := hid (hE6.heap HC4.out)
    have HX6 := hid (hE4.ev_ hE6)
    have HM6 := hid (HM4.out.keep hE6 HM4.out.lt)
    have HR16 := hid (own_mo HR1.out HGM.out HX6.out)
    have HR26 := hid (HR2.out.imp fun _ _ _ h => own_mo h HGM.out HX6.out)
    have HR36 := hid (HR3'.out.ev hE6)
    have HRT6 := hid (HRTt.out.imp fun _ _ _ h => own_mo h HGM.out HX6.out)
    have hEY2 : Ev w Y2 := hEY.trans hE6
    have hY2s := hE6.size
    have x6 := cell_in HPW6.out 0
    simp only [List.getElem?_toArray, List.getElem?_cons_zero] at x6
    clear hE4 hE6 x4 j0 j1 j2 j3 j4 j5 j6 j7 j8 j9 j10 j11 j12 m0 m1 m2 m3 m4 m5 m6 m7 m8 m9 lpw lwb lq lr h2s HR3' HPW4 HWB4 HQ4 HC4 HM4
    obtain ⟨j0, j1, j2, j3, j4, j5, j6, j7, j8, j9, j10, j11, j12⟩ := cells13 HWB6.out
    obtain ⟨m0, m1, m2, m3, m4, m5, m6, m7, m8, m9⟩ := cells10 HC6.out
    have lpw := heap_lt HPW6.out
    have lwb := heap_lt HWB6.out
    have lq := heap_lt HQ6.out
    have lr := heap_lt HC6.out
    gi_upto_if 41 with fail
    gi_cut [] from 42 (fun Y => Kq B mb p X Y ∧ Hid (Y.heap[r]? = some (.cells #[.int .i64 a0, .int .i64 a1, .int .i64 a2, .int .i64 a3, .int .i64 a4, .int .i64 a5, .int .i64 a6, .int .i64 a7, .int .i64 a8, .int .i64 a9] 109 (0, 0))) ∧ Hid (Y.heap[q]? = some (.cells #[.int .i64 v.1, .slice v.2.1 v.2.2.1 v.2.2.2] 42 (0, 0))) ∧ Hid (MapIs Try.prog 139 Y mb g4) ∧ ∃ V2' n2' c2', n2' ≤ 2000 ∧ Hid (Y.heap[p]? = some (.cells #[.int .i64 f.last, .int .i64 f.size, .int .i64 f.cool, .int .i64 f.die, .int .i64 f.burn, .int .i64 f.st.lo, .int .i64 f.st.hi, .slice Aw nw cw, .slice At nt ct, .slice Ar nr cr, .slice V1 n1 c1, .slice V2' n2' c2', .map (some mb)] 136 (0, 0))) ∧ Y.ownsRow B 42 2 (.slice V1 n1 c1) n1 (vs.flatMap thc) ∧ TRows B Y vs (pre.filter (M.right f)) ∧ TRow B Y v t ∧ Y.ownsRow B 109 10 (.slice V2' n2' c2') n2' ((M.stK f [] (pre ++ [t])).flatMap scs) ∧ Hid (n2' = (M.stK f [] (pre ++ [t])).length))
    case first =>
     cases nwb with
     | true =>
      have hne : ¬ (M.stK f [] pre).getLast? = some (M.own f t) := of_decide_eq_true HNB.out
      have HSN := hid (show M.stK f [] (pre ++ [t]) = M.stK f [] pre ++ [[a0, a1, a2, a3, a4, a5, a6, a7, a8, a9]] by rw [HNW.out, if_neg hne, HWV.out])
      obtain ⟨i0, hi, hz0, hz1, hz2⟩ := info_parts infoWt
      clear hne
      gi_wp2
      have HSE : Hid (∀ w', Ev Y2 w' → (∀ o, w'.cell? ⟨w1.heap.size, o, none⟩ = Y2.cell? ⟨w1.heap.size, o, none⟩) ∧ (∀ o, w'.cell? ⟨p, o, none⟩ = Y2.cell? ⟨p, o, none⟩) ∧ (∀ o, w'.cell? ⟨r, o, none⟩ = Y2.cell? ⟨r, o, none⟩)) := hid (fun w' h => ⟨fun o => h.cells.1 _ o lpw, fun o => h.cells.1 _ o lwb, fun o => h.cells.1 _ o lr⟩)
      refine wp_region_C (l := l) (c := 10) (S := fun w' => (∀ o, w'.cell? ⟨w1.heap.size, o, none⟩ = Y2.cell? ⟨w1.heap.size, o, none⟩) ∧ (∀ o, w'.cell? ⟨p, o, none⟩ = Y2.cell? ⟨p, o, none⟩) ∧ (∀ o, w'.cell? ⟨r, o, none⟩ = Y2.cell? ⟨r, o, none⟩)) (by kernel_rfl) rfl (⟨fun o => rfl, fun o => rfl, fun o => rfl⟩) (fun hHeld => ?_)
      refine wpAnyC_takeD (i := 0) (v := ?_) (some 42) rfl rfl rfl (by kernel_rfl) (by kernel_rfl) (by kernel_rfl) (by kernel_rfl) (fun _ _ _ h => h) (Or.inl ⟨by rfl, ?hy⟩) (by assumption) ?_
      case hy => (intro w hSw; (try dsimp only at hSw); go_simp; with_reducible rfl)
      (try simp only [Act.put, List.setIfInBounds_toArray, List.set_cons_zero, List.set_cons_succ])
      refine wpAnyC_takeD (i := 1) (v := ?_) (some 43) rfl rfl rfl (by kernel_rfl) (by kernel_rfl) (by kernel_rfl) (by kernel_rfl) (fun _ _ _ h => h) (Or.inl ⟨by rfl, ?hy⟩) (by assumption) ?_
      case hy => (intro w hSw; (try dsimp only at hSw); go_simp; with_reducible rfl)
      (try simp only [Act.put, List.setIfInBounds_toArray, List.set_cons_zero, List.set_cons_succ])
      refine wpAnyC_takeD (i := 2) (v := ?_) (some 44) rfl rfl rfl (by kernel_rfl) (by kernel_rfl) (by kernel_rfl) (by kernel_rfl) (fun _ _ _ h => h) (Or.inl ⟨by rfl, ?hy⟩) (by assumption) ?_
      case hy => (intro w hSw; (try dsimp only at hSw); go_simp; with_reducible rfl)
      (try simp only [Act.put, List.setIfInBounds_toArray, List.set_cons_zero, List.set_cons_succ])
      refine wpAnyC_takeD (i := 3) (v := ?_) (some 45) rfl rfl rfl (by kernel_rfl) (by kernel_rfl) (by kernel_rfl) (by kernel_rfl) (fun _ _ _ h => h) (Or.inl ⟨by rfl, ?hy⟩) (by assumption) ?_
      case hy => (intro w hSw; (try dsimp only at hSw); go_simp; with_reducible rfl)
      (try simp only [Act.put, List.setIfInBounds_toArray, List.set_cons_zero, List.set_cons_succ])
      refine wpAnyC_takeD (i := 4) (v := ?_) (some 46) rfl rfl rfl (by kernel_rfl) (by kernel_rfl) (by kernel_rfl) (by kernel_rfl) (fun _ _ _ h => h) (Or.inl ⟨by rfl, ?hy⟩) (by assumption) ?_
      case hy => (intro w hSw; (try dsimp only at hSw); go_simp; with_reducible rfl)
      (try simp only [Act.put, List.setIfInBounds_toArray, List.set_cons_zero, List.set_cons_succ])
      refine wpAnyC_takeD (i := 5) (v := ?_) (some 47) rfl rfl rfl (by kernel_rfl) (by kernel_rfl) (by kernel_rfl) (by kernel_rfl) (fun _ _ _ h => h) (Or.inl ⟨by rfl, ?hy⟩) (by assumption) ?_
      case hy => (intro w hSw; (try dsimp only at hSw); go_simp; with_reducible rfl)
      (try simp only [Act.put, List.setIfInBounds_toArray, List.set_cons_zero, List.set_cons_succ])
      refine wpAnyC_one (i := 6) rfl (by kernel_rfl) (by rfl) (by decide) (fun K hK => ?_)
      go_simp
      have hEA : Ev Y2 (Y2.drew.alloc (.cells #[.int .i64 a0, .int .i64 a1, .int .i64 a2, .int .i64 a3, .int .i64 a4, .int .i64 a5, .int .i64 a6, .int .i64 a7, .int .i64 a8, .int .i64 a9] 109)) := Ev.alloc (Ev.drew (Ev.refl Y2)) _
      have hnb : (Y2.drew.alloc (.cells #[.int .i64 a0, .int .i64 a1, .int .i64 a2, .int .i64 a3, .int .i64 a4, .int .i64 a5, .int .i64 a6, .int .i64 a7, .int .i64 a8, .int .i64 a9] 109)).heap[Y2.heap.size]? = some (.cells #[.int .i64 a0, .int .i64 a1, .int .i64 a2, .int .i64 a3, .int .i64 a4, .int .i64 a5, .int .i64 a6, .int .i64 a7, .int .i64 a8, .int .i64 a9] 109 (0, 0)) := (alloc1 Y2.drew _).1
      refine hK.out _ _ (HSE.out _ hEA) (fun hHeld => ?_)
      clear hK K
      (try simp only [Act.put, List.setIfInBounds_toArray, List.set_cons_zero, List.set_cons_succ])
      refine wpAnyC_one (i := 7) rfl (by kernel_rfl) (by rfl) (by decide) (fun K hK => ?_)
      refine upon_in (wp_append_own _ (.tmp 46) (.tmp 48) 134 rfl B 109 i0 _ 10 80 Try.underlying134 hi hz0 hz1 hz2 rfl (by decide) (.slice V2 n2 c2) n2 ((M.stK f [] pre).flatMap scs) rfl (HR36.out.ev hEA) ⟨Y2.heap.size, 0, none⟩ 1 1 [.int .i64 a0, .int .i64 a1, .int .i64 a2, .int .i64 a3, .int .i64 a4, .int .i64 a5, .int .i64 a6, .int .i64 a7, .int .i64 a8, .int .i64 a9] rfl rfl (news_in hnb) (by simp [Value.oneCell']) (by unfold maxLen; omega) (by omega) (by simp; omega) ?_)
      intro v' W3 hown' hgrow _
      obtain ⟨V', cc', rfl⟩ := own_form hown'
      have HO3 := hid hown'
      have hGR := hid hgrow
      have hkG : Kq B mb p Y2 W3 := (Kq.ev hEA hmp).trans (Kq.grown hgrow (fun k e => ((HR36.out.ev hEA).lt k e).1))
      clear hown' hgrow
      have hoth : ∀ k, k < Y2.heap.size → (Value.slice V2 n2 c2).ownBlock ≠ some k → W3.heap[k]? = Y2.heap[k]? := fun k h1 h2 => (hGR.out.block k (Nat.lt_of_lt_of_le h1 hEA.size) (fun e => h2 e.symm)).trans (hEA.block k h1)
      have hlow : ∀ k, k < B → (Value.slice V2 n2 c2).ownBlock ≠ some k := fun k hk e => by have := ((HR36.out.ev hEA).lt k e).1; omega
      have hwb3 := (hoth p lwb (hlow p hpB)).trans HWB6.out
      have hrne : (Value.slice V2 n2 c2).ownBlock ≠ some r := fun e => by
       have h1 := (HR3.out.lt r e).2
       omega
      have hqne : (Value.slice V2 n2 c2).ownBlock ≠ some q := fun e => by
       obtain ⟨es, hes⟩ := own_block_type HR36.out e
       rw [HQ6.out] at hes
       cases hes
      have hSb : (∀ o, W3.cell? ⟨w1.heap.size, o, none⟩ = Y2.cell? ⟨w1.heap.size, o, none⟩) ∧ (∀ o, W3.cell? ⟨p, o, none⟩ = Y2.cell? ⟨p, o, none⟩) ∧ (∀ o, W3.cell? ⟨r, o, none⟩ = Y2.cell? ⟨r, o, none⟩) := ⟨fun o => World.cell?_of_block (w := Y2) (hoth w1.heap.size lpw (hlow _ hpwB)), fun o => World.cell?_of_block (w := Y2) (hoth p lwb (hlow p hpB)), fun o => World.cell?_of_block (w := Y2) (hoth r lr hrne)⟩
      have c35 := cell_in hwb3 11
      have f35 := frozen_in hwb3 11
      simp only [List.getElem?_toArray, List.getElem?_cons_succ, List.getElem?_cons_zero] at c35
      refine hK.out _ _ (hSb) (fun hHeld => ?_)
      clear hK K
      (try simp only [Act.put, List.setIfInBounds_toArray, List.set_cons_zero, List.set_cons_succ])
      refine wpAnyC_one (i := 8) rfl (by kernel_rfl) (by rfl) (by decide) (fun K hK => ?_)
      go_simp
      refine hK.out _ _ (hSb) (fun hHeld => ?_)
      clear hK K
      (try simp only [Act.put, List.setIfInBounds_toArray, List.set_cons_zero, List.set_cons_succ])
      refine wpAnyC_one (i := 9) rfl (by kernel_rfl) (by rfl) (by decide) (fun K hK => ?_)
      go_simp
      refine hK.out _ _ (hSb) (fun hHeld => ?_)
      clear hK K
      (try simp only [Act.put, List.setIfInBounds_toArray, List.set_cons_zero, List.set_cons_succ])
      refine wpAnyC_last rfl (by kernel_rfl) (by rfl) (fun K hK => ?_)
      go_simp
      refine hK.out _ _ ?_
      clear hK K
      (try simp only [Act.put, List.setIfInBounds_toArray, List.set_cons_zero, List.set_cons_succ])
      refine wpAnyC_done (by kernel_rfl) ?_ _
      gi_wp2_with fail
      gi_meet
      have hR1A := HR16.out.ev hEA
      have hR3A := HR36.out.ev hEA
      have hmW : W3.heap[mb]? = Y2.heap[mb]? := hoth mb HM6.out.lt (hlow mb (by omega))
      refine ⟨(Kq.mo HX6.out hmp).trans (hkG.trans (Kq.setCell W3 11 _ hmp)), hid (set_heap ((hoth r lr hrne).trans HC6.out) (by omega)), hid (set_heap ((hoth q lq hqne).trans HQ6.out) (by omega)), hid ((HM6.out.same hmW).same (Below.heap_setCell _ _ _ _ (by simp; omega))), V', n2 + 1, cc', by omega, hid (by rw [set_heap_same hwb3]; rfl), ?_, ?_, ?_, ?_, ?_⟩
      ·
       exact ownsRow_setCell_below (a := ⟨p, 11, none⟩) (hR1A.kept hGR.out (own_ne hR3A hR1A (by decide))) hpB _
      ·
       exact ((HR26.out.ev hEA).grown hR3A (by decide) hGR.out).imp fun _ _ _ h => ownsRow_setCell_below (a := ⟨p, 11, none⟩) h hpB _
      ·
       exact (HRT6.out.imp fun _ _ _ h => h.ev hEA).imp fun _ _ _ h => ownsRow_setCell_below (a := ⟨p, 11, none⟩) (h.kept hGR.out (own_ne hR3A h (by decide))) hpB _
      ·
       rw [HSN.out, List.flatMap_append]
       exact ownsRow_setCell_below (a := ⟨p, 11, none⟩) HO3.out hpB _
      ·
       exact hid (by rw [HSN.out, List.length_append, HN2.out]; rfl)
     | false =>
      have heq : (M.stK f [] pre).getLast? = some (M.own f t) := by have := of_decide_eq_false HNB.out; simpa using this
      have HSN := hid (show M.stK f [] (pre ++ [t]) = M.stK f [] pre by rw [HNW.out, if_pos heq])
      clear heq
      gi_wp2
      gi_meet
      exact ⟨Kq.mo HX6.out hmp, HC6, HQ6, HM6, V2, n2, c2, by omega, HWB6, HR16.out, HR26.out, HRT6.out, by rw [HSN.out]; exact HR36.out, hid (by rw [HSN.out, HN2.out])⟩
    case rest =>
     obtain ⟨hK7, HC7, HQ7, HM7, V2', n2', c2', hn2', HWB7, hr17, hr27, hrt7, hr37, HL7⟩ := hcut
     obtain ⟨Y3, hY3⟩ : ∃ x, x = wc := ⟨_, rfl⟩
     subst hY3
     have HPW7 := hid ((hK7.block _ hpwB (by omega) hpwl).trans HPW.out)
     have HR17 := hid hr17
     have HR27 := hid hr27
     have HRT7 := hid hrt7
     have HR37 := hid hr37
     have hEY3 : Ev w Y3 := ⟨hK7.os.trans hEX0.os, hK7.tape.trans hEX0.tape, hK7.output.trans hEX0.output, by have := hK7.size; omega, fun j hj => (hK7.block j (by omega) (by omega) (by omega)).trans (hEX0.block j hj)⟩
     have hY3s := hK7.size
     have x7 := cell_in HPW7.out 0
     simp only [List.getElem?_toArray, List.getElem?_cons_zero] at x7
     clear x6 j0 j1 j2 j3 j4 j5 j6 j7 j8 j9 j10 j11 j12 m0 m1 m2 m3 m4 m5 m6 m7 m8 m9 lpw lwb lq lr hr17 hr27 hrt7 hr37 HPW6 HWB6 HQ6 HC6 HX6 HM6 HR16 HR26 HR36 HRT6 hEY2 hY2s hEY hY1s
     obtain ⟨j0, j1, j2, j3, j4, j5, j6, j7, j8, j9, j10, j11, j12⟩ := cells13 HWB7.out
     obtain ⟨m0, m1, m2, m3, m4, m5, m6, m7, m8, m9⟩ := cells10 HC7.out
     obtain ⟨z0, z1⟩ := cells2 HQ7.out
     have lpw := heap_lt HPW7.out
     have lwb := heap_lt HWB7.out
     have lq := heap_lt HQ7.out
     have lr := heap_lt HC7.out
     have hsh := fun W' hE => CallsIn.inRound l (HSH.out [a0, a1, a2, a3, a4, a5, a6, a7, a8, a9] rfl W' hE)
     simp only [sv, List.map_cons, List.map_nil] at hsh
     have HRB := hid (show M.right f t = f.rds.all (M.shows [a0, a1, a2, a3, a4, a5, a6, a7, a8, a9]) by rw [HRT.out, HWV.out])
     generalize f.rds.all (M.shows [a0, a1, a2, a3, a4, a5, a6, a7, a8, a9]) = rb at hsh HRB
     have HSHt := hid hsh
     clear hsh
     gi_wp2
     have HSE : Hid (∀ w', Ev Y3 w' → (∀ o, w'.cell? ⟨w1.heap.size, o, none⟩ = Y3.cell? ⟨w1.heap.size, o, none⟩) ∧ (∀ o, w'.cell? ⟨p, o, none⟩ = Y3.cell? ⟨p, o, none⟩) ∧ (∀ o, w'.cell? ⟨r, o, none⟩ = Y3.cell? ⟨r, o, none⟩)) := hid (fun w' h => ⟨fun o => h.cells.1 _ o lpw, fun o => h.cells.1 _ o lwb, fun o => h.cells.1 _ o lr⟩)
     refine wp_region_R (l := l) (S := fun w' => (∀ o, w'.cell? ⟨w1.heap.size, o, none⟩ = Y3.cell? ⟨w1.heap.size, o, none⟩) ∧ (∀ o, w'.cell? ⟨p, o, none⟩ = Y3.cell? ⟨p, o, none⟩) ∧ (∀ o, w'.cell? ⟨r, o, none⟩ = Y3.cell? ⟨r, o, none⟩)) (by kernel_rfl) rfl (⟨fun o => rfl, fun o => rfl, fun o => rfl⟩) (fun hHeld => ?_)
     refine wpAnyR_takeD (i := 0) (v := ?_) (some 52) rfl rfl (by kernel_rfl) (by kernel_rfl) (by kernel_rfl) (fun _ _ _ h => h) (Or.inl ⟨by rfl, ?hy⟩) (by assumption) ?_
     case hy => (intro w hSw; (try dsimp only at hSw); go_simp; with_reducible rfl)
     (try simp only [Act.put, List.setIfInBounds_toArray, List.set_cons_zero, List.set_cons_succ])
     refine wpAnyR_takeD (i := 1) (v := ?_) (some 53) rfl rfl (by kernel_rfl) (by kernel_rfl) (by kernel_rfl) (fun _ _ _ h => h) (Or.inl ⟨by rfl, ?hy⟩) (by assumption) ?_
     case hy => (intro w hSw; (try dsimp only at hSw); go_simp; with_reducible rfl)
     (try simp only [Act.put, List.setIfInBounds_toArray, List.set_cons_zero, List.set_cons_succ])
     refine wpAnyR_takeD (i := 2) (v := ?_) (some 54) rfl rfl (by kernel_rfl) (by kernel_rfl) (by kernel_rfl) (fun _ _ _ h => h) (Or.inl ⟨by rfl, ?hy⟩) (by assumption) ?_
     case hy => (intro w hSw; (try dsimp only at hSw); go_simp; with_reducible rfl)
     (try simp only [Act.put, List.setIfInBounds_toArray, List.set_cons_zero, List.set_cons_succ])
     refine wpAnyR_takeD (i := 3) (v := ?_) (some 55) rfl rfl (by kernel_rfl) (by kernel_rfl) (by kernel_rfl) (fun _ _ _ h => h) (Or.inl ⟨by rfl, ?hy⟩) (by assumption) ?_
     case hy => (intro w hSw; (try dsimp only at hSw); go_simp; with_reducible rfl)
     (try simp only [Act.put, List.setIfInBounds_toArray, List.set_cons_zero, List.set_cons_succ])
     refine wpAnyR_takeD (i := 4) (v := ?_) (some 56) rfl rfl (by kernel_rfl) (by kernel_rfl) (by kernel_rfl) (fun _ _ _ h => h) (Or.inl ⟨by rfl, ?hy⟩) (by assumption) ?_
     case hy => (intro w hSw; (try dsimp only at hSw); go_simp; with_reducible rfl)
     (try simp only [Act.put, List.setIfInBounds_toArray, List.set_cons_zero, List.set_cons_succ])
     refine wpAnyR_takeD (i := 5) (v := ?_) (some 57) rfl rfl (by kernel_rfl) (by kernel_rfl) (by kernel_rfl) (fun _ _ _ h => h) (Or.inl ⟨by rfl, ?hy⟩) (by assumption) ?_
     case hy => (intro w hSw; (try dsimp only at hSw); go_simp; with_reducible rfl)
     (try simp only [Act.put, List.setIfInBounds_toArray, List.set_cons_zero, List.set_cons_succ])
     refine wpAnyR_one (i := 6) rfl (by kernel_rfl) (by rfl) (fun K hK => ?_)
     go_simp
     refine CallsIn.mono (HSHt.out _ (hEY3.trans (Ev.drew (Ev.refl _)))) ?_
     rintro e Y4 ⟨rfl, hb4⟩
     have hE8 : Ev Y3 Y4 := Ev.trans (Ev.drew (Ev.refl _)) hb4
     refine hK.out _ _ (HSE.out _ hE8) (fun hHeld => ?_)
     clear hK K
     (try simp only [Act.put, List.setIfInBounds_toArray, List.set_cons_zero, List.set_cons_succ])
     refine wpAnyR_done (by kernel_rfl) ?_ _
     clear hHeld
     have HK7 := hid hK7
     have HPW8 := hid (hE8.heap HPW7.out)
     have HWB8 := hid (hE8.heap HWB7.out)
     have HQ8 := hid (hE8.heap HQ7.out)
     have HM8 := hid (HM7.out.keep hE8 HM7.out.lt)
     have HR18 := hid (HR17.out.ev hE8)
     have HR28 := hid (HR27.out.ev hE8)
     have HRT8 := hid (HRT7.out.imp fun _ _ _ h => h.ev hE8)
     have HR38 := hid (HR37.out.ev hE8)
     have hK8 : Kq B mb p X Y4 := hK7.trans (Kq.ev hE8 hmp)
     have x8 := cell_in HPW8.out 0
     simp only [List.getElem?_toArray, List.getElem?_cons_zero] at x8
     clear x7 j0 j1 j2 j3 j4 j5 j6 j7 j8 j9 j10 j11 j12 m0 m1 m2 m3 m4 m5 m6 m7 m8 m9 z0 z1 lpw lwb lq lr HSE
     obtain ⟨j0, j1, j2, j3, j4, j5, j6, j7, j8, j9, j10, j11, j12⟩ := cells13 HWB8.out
     obtain ⟨z0, z1⟩ := cells2 HQ8.out
     have lpw := heap_lt HPW8.out
     have lwb := heap_lt HWB8.out
     have lq := heap_lt HQ8.out
     have lmb := HM8.out.lt
     have hend : ∀ Z V1' n1' c1', Kq B mb p X Z → MapIs Try.prog 139 Z mb g4 → Z.heap[p]? = some (.cells #[.int .i64 f.last, .int .i64 f.size, .int .i64 f.cool, .int .i64 f.die, .int .i64 f.burn, .int .i64 f.st.lo, .int .i64 f.st.hi, .slice Aw nw cw, .slice At nt ct, .slice Ar nr cr, .slice V1' n1' c1', .slice V2' n2' c2', .map (some mb)] 136 (0, 0)) → ∀ vs', Z.ownsRow B 42 2 (.slice V1' n1' c1') n1' (vs'.flatMap thc) → n1' = ((pre ++ [t]).filter (M.right f)).length → TRows B Z vs' ((pre ++ [t]).filter (M.right f)) → Z.ownsRow B 109 10 (.slice V2' n2' c2') n2' ((M.stK f [] (pre ++ [t])).flatMap scs) →
       Kept (fun _ => False) w3.heap.size B X Z ∧ (Bar mb (p + 1) w3 Z ∧ (∃ g, Loads f g ∧ MapIs Try.prog 139 Z mb g) ∧ ∃ v1 v2 vs, Hid (Z.heap[p]? = some (.cells #[.int .i64 f.last, .int .i64 f.size, .int .i64 f.cool, .int .i64 f.die, .int .i64 f.burn, .int .i64 f.st.lo, .int .i64 f.st.hi, .slice Aw nw cw, .slice At nt ct, .slice Ar nr cr, v1, v2, .map (some mb)] 136 (0, 0))) ∧ Z.ownsRow B 42 2 v1 ((pre ++ [t]).filter (M.right f)).length (vs.flatMap thc) ∧ TRows B Z vs ((pre ++ [t]).filter (M.right f)) ∧ Z.ownsRow B 109 10 v2 (M.stK f [] (pre ++ [t])).length ((M.stK f [] (pre ++ [t])).flatMap scs)) := by
      intro Z V1' n1' c1' hK hmz hp vs' ho hn hr hs'
      refine ⟨⟨hK.size, fun j hj hor => ?_⟩, ⟨hK.os.trans hbar.os, hK.tape.trans hbar.tape, hK.output.trans hbar.output, Nat.le_trans hbar.size hK.size, fun j hj hn => (hK.block j (by omega) (by omega) (by omega)).trans (hbar.block j hj hn)⟩, ⟨g4, HG4.out, hmz⟩, _, _, vs', hid hp, by rw [← hn]; exact ho, hr, by rw [← HL7.out]; exact hs'⟩
      rcases hor with hf | hor
      ·
       exact hf.elim
      ·
       exact hK.block j hor.2 (by omega) hj
     have HEND := hid hend
     clear hend
     cases rb with
     | true =>
      have HFT := hid (show (pre ++ [t]).filter (M.right f) = pre.filter (M.right f) ++ [t] by rw [List.filter_append]; simp [HRB.out])
      obtain ⟨i0, hi, hz0, hz1, hz2⟩ := info_parts infoTr
      gi_wp2
      have HSE : Hid (∀ w', Ev Y4 w' → (∀ o, w'.cell? ⟨w1.heap.size, o, none⟩ = Y4.cell? ⟨w1.heap.size, o, none⟩) ∧ (∀ o, w'.cell? ⟨p, o, none⟩ = Y4.cell? ⟨p, o, none⟩) ∧ (∀ o, w'.cell? ⟨q, o, none⟩ = Y4.cell? ⟨q, o, none⟩)) := hid (fun w' h => ⟨fun o => h.cells.1 _ o lpw, fun o => h.cells.1 _ o lwb, fun o => h.cells.1 _ o lq⟩)
      refine wp_region_C (l := l) (c := 10) (S := fun w' => (∀ o, w'.cell? ⟨w1.heap.size, o, none⟩ = Y4.cell? ⟨w1.heap.size, o, none⟩) ∧ (∀ o, w'.cell? ⟨p, o, none⟩ = Y4.cell? ⟨p, o, none⟩) ∧ (∀ o, w'.cell? ⟨q, o, none⟩ = Y4.cell? ⟨q, o, none⟩)) (by kernel_rfl) rfl (⟨fun o => rfl, fun o => rfl, fun o => rfl⟩) (fun hHeld => ?_)
      refine wpAnyC_takeD (i := 0) (v := ?_) (some 59) rfl rfl rfl (by kernel_rfl) (by kernel_rfl) (by kernel_rfl) (by kernel_rfl) (fun _ _ _ h => h) (Or.inl ⟨by rfl, ?hy⟩) (by assumption) ?_
      case hy => (intro w hSw; (try dsimp only at hSw); go_simp; with_reducible rfl)
      (try simp only [Act.put, List.setIfInBounds_toArray, List.set_cons_zero, List.set_cons_succ])
      refine wpAnyC_takeD (i := 1) (v := ?_) (some 60) rfl rfl rfl (by kernel_rfl) (by kernel_rfl) (by kernel_rfl) (by kernel_rfl) (fun _ _ _ h => h) (Or.inl ⟨by rfl, ?hy⟩) (by assumption) ?_
      case hy => (intro w hSw; (try dsimp only at hSw); go_simp; with_reducible rfl)
      (try simp only [Act.put, List.setIfInBounds_toArray, List.set_cons_zero, List.set_cons_succ])
      refine wpAnyC_takeD (i := 2) (v := ?_) (some 61) rfl rfl rfl (by kernel_rfl) (by kernel_rfl) (by kernel_rfl) (by kernel_rfl) (fun _ _ _ h => h) (Or.inl ⟨by rfl, ?hy⟩) (by assumption) ?_
      case hy => (intro w hSw; (try dsimp only at hSw); go_simp; with_reducible rfl)
      (try simp only [Act.put, List.setIfInBounds_toArray, List.set_cons_zero, List.set_cons_succ])
      refine wpAnyC_takeD (i := 3) (v := ?_) (some 62) rfl rfl rfl (by kernel_rfl) (by kernel_rfl) (by kernel_rfl) (by kernel_rfl) (fun _ _ _ h => h) (Or.inl ⟨by rfl, ?hy⟩) (by assumption) ?_
      case hy => (intro w hSw; (try dsimp only at hSw); go_simp; with_reducible rfl)
      (try simp only [Act.put, List.setIfInBounds_toArray, List.set_cons_zero, List.set_cons_succ])
      refine wpAnyC_takeD (i := 4) (v := ?_) (some 63) rfl rfl rfl (by kernel_rfl) (by kernel_rfl) (by kernel_rfl) (by kernel_rfl) (fun _ _ _ h => h) (Or.inl ⟨by rfl, ?hy⟩) (by assumption) ?_
      case hy => (intro w hSw; (try dsimp only at hSw); go_simp; with_reducible rfl)
      (try simp only [Act.put, List.setIfInBounds_toArray, List.set_cons_zero, List.set_cons_succ])
      refine wpAnyC_takeD (i := 5) (v := ?_) (some 64) rfl rfl rfl (by kernel_rfl) (by kernel_rfl) (by kernel_rfl) (by kernel_rfl) (fun _ _ _ h => h) (Or.inl ⟨by rfl, ?hy⟩) (by assumption) ?_
      case hy => (intro w hSw; (try dsimp only at hSw); go_simp; with_reducible rfl)
      (try simp only [Act.put, List.setIfInBounds_toArray, List.set_cons_zero, List.set_cons_succ])
      refine wpAnyC_one (i := 6) rfl (by kernel_rfl) (by rfl) (by decide) (fun K hK => ?_)
      go_simp
      have hEA : Ev Y4 (Y4.drew.alloc (.cells #[.int .i64 v.1, .slice v.2.1 v.2.2.1 v.2.2.2] 42)) := Ev.alloc (Ev.drew (Ev.refl Y4)) _
      have hnb : (Y4.drew.alloc (.cells #[.int .i64 v.1, .slice v.2.1 v.2.2.1 v.2.2.2] 42)).heap[Y4.heap.size]? = some (.cells #[.int .i64 v.1, .slice v.2.1 v.2.2.1 v.2.2.2] 42 (0, 0)) := (alloc1 Y4.drew _).1
      refine hK.out _ _ (HSE.out _ hEA) (fun hHeld => ?_)
      clear hK K
      (try simp only [Act.put, List.setIfInBounds_toArray, List.set_cons_zero, List.set_cons_succ])
      refine wpAnyC_one (i := 7) rfl (by kernel_rfl) (by rfl) (by decide) (fun K hK => ?_)
      refine upon_in (wp_append_own _ (.tmp 63) (.tmp 65) 133 rfl B 42 i0 _ 2 32 Try.underlying133 hi hz0 hz1 hz2 rfl (by decide) (.slice V1 n1 c1) n1 (vs.flatMap thc) rfl (HR18.out.ev hEA) ⟨Y4.heap.size, 0, none⟩ 1 1 [.int .i64 v.1, .slice v.2.1 v.2.2.1 v.2.2.2] rfl rfl (news_in hnb) (by simp [Value.oneCell']) (by unfold maxLen; omega) (by omega) (by simp; omega) ?_)
      intro v' W3 hown' hgrow _
      obtain ⟨V', cc', rfl⟩ := own_form hown'
      have HO3 := hid hown'
      have hGR := hid hgrow
      have hkG : Kq B mb p Y4 W3 := (Kq.ev hEA hmp).trans (Kq.grown hgrow (fun k e => ((HR18.out.ev hEA).lt k e).1))
      clear hown' hgrow
      have hoth : ∀ k, k < Y4.heap.size → (Value.slice V1 n1 c1).ownBlock ≠ some k → W3.heap[k]? = Y4.heap[k]? := fun k h1 h2 => (hGR.out.block k (Nat.lt_of_lt_of_le h1 hEA.size) (fun e => h2 e.symm)).trans (hEA.block k h1)
      have hlow : ∀ k, k < B → (Value.slice V1 n1 c1).ownBlock ≠ some k := fun k hk e => by have := ((HR18.out.ev hEA).lt k e).1; omega
      have hwb3 := (hoth p lwb (hlow p hpB)).trans HWB8.out
      have hqne : (Value.slice V1 n1 c1).ownBlock ≠ some q := fun e => by
       exact HU2.out e
      have hSb : (∀ o, W3.cell? ⟨w1.heap.size, o, none⟩ = Y4.cell? ⟨w1.heap.size, o, none⟩) ∧ (∀ o, W3.cell? ⟨p, o, none⟩ = Y4.cell? ⟨p, o, none⟩) ∧ (∀ o, W3.cell? ⟨q, o, none⟩ = Y4.cell? ⟨q, o, none⟩) := ⟨fun o => World.cell?_of_block (w := Y4) (hoth w1.heap.size lpw (hlow _ hpwB)), fun o => World.cell?_of_block (w := Y4) (hoth p lwb (hlow p hpB)), fun o => World.cell?_of_block (w := Y4) (hoth q lq hqne)⟩
      have c35 := cell_in hwb3 10
      have f35 := frozen_in hwb3 10
      simp only [List.getElem?_toArray, List.getElem?_cons_succ, List.getElem?_cons_zero] at c35
      refine hK.out _ _ (hSb) (fun hHeld => ?_)
      clear hK K
      (try simp only [Act.put, List.setIfInBounds_toArray, List.set_cons_zero, List.set_cons_succ])
      refine wpAnyC_one (i := 8) rfl (by kernel_rfl) (by rfl) (by decide) (fun K hK => ?_)
      go_simp
      refine hK.out _ _ (hSb) (fun hHeld => ?_)
      clear hK K
      (try simp only [Act.put, List.setIfInBounds_toArray, List.set_cons_zero, List.set_cons_succ])
      refine wpAnyC_one (i := 9) rfl (by kernel_rfl) (by rfl) (by decide) (fun K hK => ?_)
      go_simp
      refine hK.out _ _ (hSb) (fun hHeld => ?_)
      clear hK K
      (try simp only [Act.put, List.setIfInBounds_toArray, List.set_cons_zero, List.set_cons_succ])
      refine wpAnyC_last rfl (by kernel_rfl) (by rfl) (fun K hK => ?_)
      go_simp
      refine hK.out _ _ ?_
      clear hK K
      (try simp only [Act.put, List.setIfInBounds_toArray, List.set_cons_zero, List.set_cons_succ])
      refine wpAnyC_done (by kernel_rfl) ?_ _
      gi_wp2
      have hR1A := HR18.out.ev hEA
      have hR3A := HR38.out.ev hEA
      have hmW : W3.heap[mb]? = Y4.heap[mb]? := hoth mb lmb (hlow mb (by omega))
      refine HEND.out _ V' (n1 + 1) cc' (hK8.trans (hkG.trans (Kq.setCell W3 10 _ hmp))) ((HM8.out.same hmW).same (Below.heap_setCell _ _ _ _ (by simp; omega))) (by rw [set_heap_same hwb3]; rfl) (vs ++ [v]) ?_ (by rw [HFT.out, List.length_append, HN1.out]; rfl) ?_ ?_
      ·
       rw [List.flatMap_append]
       exact ownsRow_setCell_below (a := ⟨p, 10, none⟩) HO3.out hpB _
      ·
       rw [HFT.out]
       exact ((((HR28.out.ev hEA).grown hR1A (by decide) hGR.out).snoc ((HRT8.out.imp fun _ _ _ h => h.ev hEA).imp fun _ _ _ h => h.kept hGR.out (own_ne hR1A h (by decide)))).imp fun _ _ _ h => ownsRow_setCell_below (a := ⟨p, 10, none⟩) h hpB _)
      ·
       exact ownsRow_setCell_below (a := ⟨p, 10, none⟩) (hR3A.kept hGR.out (own_ne hR1A hR3A (by decide))) hpB _
     | false =>
      have HFT := hid (show (pre ++ [t]).filter (M.right f) = pre.filter (M.right f) by rw [List.filter_append]; simp [HRB.out])
      gi_wp2
      exact HEND.out _ V1 n1 c1 hK8 HM8.out HWB8.out vs HR18.out (by rw [HFT.out, HN1.out]) (by rw [HFT.out]; exact HR28.out) HR38.out
 case done =>
  rintro B X hB ⟨hbar, ⟨g, hgl, hgm⟩, v1, v2, vs, hwb, hr1, hr2, hr3⟩ hD
  have hEX : Ev w X := Below.trans hEW3 (hbar.below (by omega) (by omega))
  have hpw := (hbar.block _ hql (by omega)).trans HQ3.out
  have x0 := cell_in hpw 0
  simp only [List.getElem?_toArray, List.getElem?_cons_zero] at x0
  have hl1 : ((M.allTruths f).filter (M.right f)).length ≤ 2000 := Nat.le_trans (List.length_filter_le _ _) HMAX.out
  have hl2 : (M.stK f [] (M.allTruths f)).length ≤ 2000 := Nat.le_trans (by have := M.stK_len f [] (M.allTruths f); simpa using this) HMAX.out
  have hs10 := M.stK_10 f [] (M.allTruths f) (by simp) (fun u hu => HBD.out u hu)
  have hXs := hbar.size
  gi_wp2
  show LeavesInM Fence.wide 9 Try.prog Try.f80 _ _ (marks [w3.heap.size]) .returning X
  refine leaves_marks (A := w.heap.size) [w3.heap.size] X (by simp) (fun E hE => ?_) (fun w' hb' hk' => ?_)
  ·
   rw [show E = w3.heap.size by simpa using hE]; exact ⟨by omega, hD⟩
  ·
   have hnm : ∀ (j : Nat) (o : Obj), X.heap[j]? = some o → o.isCells = true → w'.heap[j]? = some o := fun j o ho hcl => by
    refine (hk' j (fun hm => ?_)).trans ho
    rw [show j = w3.heap.size by simpa using hm, hD] at ho
    cases ho
    cases hcl
   have hr1' := ownsRow_cells hr1 hnm
   have hr3' := ownsRow_cells hr3 hnm
   obtain ⟨V1, c1, rfl⟩ := own_form hr1
   obtain ⟨V2, c2, rfl⟩ := own_form hr3
   have hEw' : Ev w w' := Below.trans hEX hb'
   refine ⟨_, results_tmp rfl _ _ _, ⟨V1, V2, _, c1, _, c2, p, mb, rfl, ⟨hnm _ _ hwb.out rfl, hs.keep hEw', ⟨vs, own_base hr1' (by omega), (hr2.imp fun _ _ _ h => ownsRow_cells h hnm).base (Nat.zero_le _)⟩, own_base hr3' (Nat.zero_le _), hs10, ⟨g, hgl, hgm.same (hk' mb (by simp; omega))⟩, hl1, hl2, by omega⟩⟩, hEw'⟩
 case stop =>
  rintro B ch pre X hB hpre h hD
  exact h.elim


end Go.Proofs.Ytgimcephbeajlaa
