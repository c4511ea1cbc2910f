import Derived.Test.YtgimcephbeajlaaC17
set_option linter.unusedSimpArgs false
set_option linter.unusedVariables false
namespace Go.Proofs.Ytgimcephbeajlaa
open Go.RowKit Go.Shelf

theorem perm_all {α : Type} {xs ys : List α} (h : xs.Perm ys) (q : α → Bool) : xs.all q = ys.all q := by
 rw [Bool.eq_iff_iff, List.all_eq_true, List.all_eq_true]
 exact ⟨fun hx x h2 => hx x (h.mem_iff.2 h2), fun hx x h2 => hx x (h.mem_iff.1 h2)⟩
theorem own_keepB {X Y : World} {base B : Nat} {e : TypeId} {sz : Nat} {v : Value} {n : Nat} {xs : List Value} (h : X.ownsRow base e sz v n xs) (hb : Go.RowKit.Below B X Y) (hlt : ∀ j, v.ownBlock = some j → j < B) : Y.ownsRow base e sz v n xs := by
 refine ⟨h.1, ?_⟩
 rcases h.2 with hn | ⟨k, cap, cur, rfl, hbg, hgg, rest⟩
 ·
  exact .inl hn
 ·
  exact .inr ⟨k, cap, cur, rfl, hbg, (hb.block k (hlt k rfl)).trans hgg, rest⟩
theorem own_mt {P : Program} {kt : TypeId} {w w' : World} {mb : Nat} {g : Value → Option Value} {base b2 : Nat} {e e2 : TypeId} {sz sz2 : Nat} {v : Value} {n n2 : Nat} {xs xs2 : List Value} {A : Option Addr} {n3 c3 : Nat} (h : w.ownsRow base e sz v n xs) (hm : MapIs P kt w mb g)
  (h2 : w.ownsRow b2 e2 sz2 (.slice A n3 c3) n2 xs2) (hne : e ≠ e2) (hk : Mt mb (Value.slice A n3 c3).ownBlock w w') : w'.ownsRow base e sz v n xs := by
 refine ⟨h.1, ?_⟩
 rcases h.2 with hn | ⟨k, cap, cur, rfl, hbg, hgg, rest⟩
 ·
  exact .inl hn
 ·
  refine .inr ⟨k, cap, cur, rfl, hbg, hk.heap hgg (map_ne hm hgg) (fun e3 => ?_), rest⟩
  rcases h2.2 with ⟨hv, _⟩ | ⟨k2, cap2, cur2, hv, _, h4, _⟩
  ·
   cases hv; simp [Value.ownBlock] at e3
  ·
   cases hv
   simp [Value.ownBlock] at e3
   subst e3
   rw [hgg] at h4
   cases h4
   exact hne rfl

theorem M.first_small (p : List Int → Bool) (sz : Nat) : ∀ (j L : Nat), (M.first p sz L j).length ≤ L + j
 | 0, L => by simp [M.first]
 | j + 1, L => by
  unfold M.first
  cases h : (M.incr sz L 0).find? p with
  | some x => exact Nat.le_trans (Nat.le_of_eq ((M.mem_incr sz L 0 x).1 (List.mem_of_find?_eq_some h)).1) (by omega)
  | none => exact Nat.le_trans (M.first_small p sz j (L + 1)) (by omega)

theorem Wc.mt {w X : World} {f : M.Cf} {Aw At Ar : Option Addr} {nw cw nt ct nr cr : Nat} {Ts Ss : Option Addr} {ns cs ms ds p mb : Nat} {b0 : Nat} {ts ts' : List M.Tr} {ss : List (List Int)} {vs vs' : List Td} (hw : Wc w f Aw At Ar nw cw nt ct nr cr Ts Ss ns cs ms ds p mb b0 ts ss) (hvo : w.ownsRow b0 42 2 (.slice Ts ns cs) ns (vs.flatMap thc)) (hvr : TRows 0 w vs ts)
  (hm : Mt mb (Value.slice Ts ns cs).ownBlock w X) (hmp : ∃ g, Loads f g ∧ MapIs Try.prog 139 X mb g) (hs : Sim vs ts vs' ts') (hx : X.ownsRow b0 42 2 (.slice Ts ns cs) ns (vs'.flatMap thc)) : Wc X f Aw At Ar nw cw nt ct nr cr Ts Ss ns cs ms ds p mb b0 ts' ss := by
 obtain ⟨g0, _, hm0⟩ := hw.mp
 have htb : ∀ j, (Value.slice Ts ns cs).ownBlock = some j → b0 ≤ j := fun j hj => (own_ge hvo j hj).1
 exact {
  hd := hm.heap hw.hd (map_ne hm0 hw.hd) (fun e => by
   obtain ⟨_, _, cs1, h1⟩ := own_ge hvo p e.symm
   have := hw.hd
   rw [h1] at this
   simp at this)
  fd := hw.fd.keep (hm.below hw.b1 htb hw.bd)
  tr := ⟨vs', hx, (hs.rows hvr).imp fun _ _ _ ho => own_mt ho hm0 hvo (by decide) hm⟩
  st := own_mt hw.st hm0 hvo (by decide) hm
  s10 := hw.s10
  mp := hmp
  n1 := hw.n1
  n2 := hw.n2
  b1 := hw.b1 }

/-- The fewest turnings. -/
def M.few (f : M.Cf) (ts : List M.Tr) : List Int := M.shortest (fun plan => ts.all fun t => M.stays f t plan) f.wet.length

set_option maxRecDepth 100000 in
set_option maxHeartbeats 2000000 in
theorem few_c (f : M.Cf) (Aw At Ar : Option Addr) (nw cw nt ct nr cr : Nat) (Ts Ss : Option Addr) (ns cs ms ds p mb : Nat) (b0 : Nat) (ts : List M.Tr) (ss : List (List Int)) (h0 : M.check f = 0) (hts : ∀ t ∈ ts, M.listed f t = true) (w : World) (hw : Wc w f Aw At Ar nw cw nt ct nr cr Ts Ss ns cs ms ds p mb b0 ts ss) :
  Calls Try.prog 83 #[.agg #[.pointer (some ⟨p, 0, none⟩), .int .i64 (nw : Int), .func (.func 77) #[] #[]]] w fun e w' => (∃ B d, e = .returned (.slice B (M.few f ts).length d) ∧ w'.ownsRow w.heap.size 3 1 (.slice B (M.few f ts).length d) (M.few f ts).length ((M.few f ts).flatMap ics)) ∧ (∃ ts', ts'.Perm ts ∧ Wc w' f Aw At Ar nw cw nt ct nr cr Ts Ss ns cs ms ds p mb b0 ts' ss) ∧ Mt mb (Value.slice Ts ns cs).ownBlock w w' := by
 obtain ⟨vs, hvo, hvr⟩ := hw.tr
 obtain ⟨g0, hgl0, hm0⟩ := hw.mp
 have hwl : f.wet.length = nw := hw.fd.w_.len
 have hvp := M.valid_parts (M.check0 h0).2.2.1
 have hl9 := (M.check0 h0).1
 have hnw10 : nw ≤ 10 := by omega
 have htb : ∀ j, (Value.slice Ts ns cs).ownBlock = some j → j < w.heap.size := fun j hj => (own_ge hvo j hj).2.1
 have hsh := callsIn_wide.1 (shortK_in (.pointer (some ⟨p, 0, none⟩)) nw hnw10 (fun plan => ts.all fun t => M.stays f t plan) mb (Value.slice Ts ns cs).ownBlock
  (fun X => Mt mb (Value.slice Ts ns cs).ownBlock w X ∧ (∃ g', Loads f g' ∧ MapIs Try.prog 139 X mb g') ∧ ∃ vs' ts', Sim vs ts vs' ts' ∧ X.ownsRow b0 42 2 (.slice Ts ns cs) ns (vs'.flatMap thc)) w hm0.lt htb
  ⟨Mt.refl _ _ _, ⟨g0, hgl0, hm0⟩, vs, ts, Sim.refl hvr.1, hvo⟩
  (fun X Y hb ⟨h1, ⟨g', h2, h3⟩, vs', ts', h4, h5⟩ => ⟨h1.low hb (Nat.le_refl _), ⟨g', h2, h3.keep hb hm0.lt⟩, vs', ts', h4, own_keepB h5 hb htb⟩)
  (fun W B m d rows L ⟨h1, h2, vs', ts', h4, h5⟩ _ hsl _ => by
   have hW := hw.mt hvo hvr h1 h2 h4 h5
   have hr : TRows 0 W vs' ts' := (h4.rows hvr).imp fun _ _ _ ho => own_mt ho hm0 hvo (by decide) h1
   refine (keepsVs_c f Aw At Ar nw cw nt ct nr cr Ts Ss ns cs ms ds p mb B m d rows b0 ts' ss h0 (fun t ht => hts t (h4.2.1.mem_iff.1 ht)) W hW hsl vs' h5 hr).mono ?_
   rintro e w' ⟨rfl, ⟨ts2, vs2, k1, k2, k3⟩, k4⟩
   exact ⟨by rw [perm_all h4.2.1], ⟨h1.trans k4, k3.mp, vs2, ts2, h4.trans k1, k2⟩, k4⟩))
 refine hsh.mono ?_
 rintro e w' ⟨⟨B, d, rfl, h1⟩, ⟨h2, h3, vs', ts', h4, h5⟩, h6⟩
 unfold M.few
 rw [hwl]
 exact ⟨⟨B, d, rfl, h1⟩, ⟨ts', h4.2.1, hw.mt hvo hvr h2 h3 h4 h5⟩, h6⟩

set_option maxRecDepth 100000 in
set_option maxHeartbeats 2000000 in
theorem Fewest_err (f : M.Cf) (Aw At Ar : Option Addr) (nw cw nt ct nr cr : Nat) (hl0 : -9223372036854775808 ≤ f.last) (w : World) (hs : CS w w.heap.size f Aw At Ar nw cw nt ct nr cr) (h0 : M.begin f true ≠ 0) :
  Calls Try.prog 48 #[.agg #[.int .i64 f.last, .int .i64 f.size, .int .i64 f.cool, .int .i64 f.die, .int .i64 f.burn, .int .i64 f.st.lo, .int .i64 f.st.hi, .slice Aw nw cw, .slice At nt ct, .slice Ar nr cr]] w fun e w' => e = .returned (.tuple #[.slice none 0 0, .int .i64 (M.begin f true)]) ∧ Ev w w' := by
 have HBG := hid (fun W (hE : Ev w W) => begin_err f Aw At Ar nw cw nt ct nr cr hl0 true h0 W (hs.ev hE))
 generalize M.begin f true = ec at HBG h0
 have he : (ec == 0) = false := by simpa using h0
 clear h0
 go_enter Try.func48, Try.ntmps48
 have hE0 : Ev w (w.alloc (.cells #[.int .i64 f.last, .int .i64 f.size, .int .i64 f.cool, .int .i64 f.die, .int .i64 f.burn, .int .i64 f.st.lo, .int .i64 f.st.hi, .slice Aw nw cw, .slice At nt ct, .slice Ar nr cr] 40)) := Ev.alloc (Ev.refl _) _
 obtain ⟨y0, y1, y2, y3, y4, y5, y6, y7, y8, y9⟩ := cells10 (alloc1 w (.cells #[.int .i64 f.last, .int .i64 f.size, .int .i64 f.cool, .int .i64 f.die, .int .i64 f.burn, .int .i64 f.st.lo, .int .i64 f.st.hi, .slice Aw nw cw, .slice At nt ct, .slice Ar nr cr] 40)).1
 go_wp2_with (go_at_call 74; with_reducible refine (HBG.out _ hE0).mono ?_; rintro e w5 ⟨rfl, hb5⟩; have hE5 := hE0.trans hb5)
 go_ret2
 exact ⟨rfl, hE5⟩

set_option maxRecDepth 100000 in
set_option maxHeartbeats 4000000 in
theorem Fewest_ok (f : M.Cf) (Aw At Ar : Option Addr) (nw cw nt ct nr cr : Nat) (hl0 : -9223372036854775808 ≤ f.last) (w : World) (hs : CS w w.heap.size f Aw At Ar nw cw nt ct nr cr) (h0 : M.begin f true = 0) (hq : ((M.truths f).all fun t => M.stays f t (M.few f (M.truths f))) = true) :
  Calls Try.prog 48 #[.agg #[.int .i64 f.last, .int .i64 f.size, .int .i64 f.cool, .int .i64 f.die, .int .i64 f.burn, .int .i64 f.st.lo, .int .i64 f.st.hi, .slice Aw nw cw, .slice At nt ct, .slice Ar nr cr]] w fun e w' => (∃ B d, e = .returned (.tuple #[.slice B (M.few f (M.truths f)).length d, .int .i64 0]) ∧ w'.ownsRow w.heap.size 3 1 (.slice B (M.few f (M.truths f)).length d) (M.few f (M.truths f)).length ((M.few f (M.truths f)).flatMap ics)) ∧ Ev w w' := by
 obtain ⟨hc0, _, hne⟩ := M.begin0 h0
 have hts := M.truths_listed hc0
 have hnw : (nw : Int) = f.last + 1 := by
  have hvp := M.valid_parts (M.check0 hc0).2.2.1
  have := hs.w_.len
  omega
 have hl9 := (M.check0 hc0).1
 have HBG := hid (fun W (hE : Ev w W) => begin_ok f Aw At Ar nw cw nt ct nr cr hl0 true h0 W (hs.ev hE))
 have HKG := hid (fun (Ts Ss : Option Addr) (ns cs ms ds p mb : Nat) b0 ts' W (hpm : ts'.Perm (M.truths f)) (hW : Wc W f Aw At Ar nw cw nt ct nr cr Ts Ss ns cs ms ds p mb b0 ts' (M.stands f)) (B : Option Addr) (d : Nat) (hsl : Sl ics 1 W W.heap.size B (M.few f (M.truths f)).length d (M.few f (M.truths f))) => keepsAlways_c f Aw At Ar nw cw nt ct nr cr Ts Ss ns cs ms ds p mb B (M.few f (M.truths f)).length d (M.few f (M.truths f)) b0 ts' (M.stands f) hc0 (fun t ht => hts t (hpm.mem_iff.1 ht)) W hW hsl)
 have HFG := hid (fun (Ts Ss : Option Addr) (ns cs ms ds p mb : Nat) b0 W (hW : Wc W f Aw At Ar nw cw nt ct nr cr Ts Ss ns cs ms ds p mb b0 (M.truths f) (M.stands f)) => (show Calls Try.prog 83 #[.agg #[.pointer (some ⟨p, 0, none⟩), .int .i64 (f.last + 1), .func (.func 77) #[] #[]]] W fun e w' => (∃ B d, e = .returned (.slice B (M.few f (M.truths f)).length d) ∧ w'.ownsRow W.heap.size 3 1 (.slice B (M.few f (M.truths f)).length d) (M.few f (M.truths f)).length ((M.few f (M.truths f)).flatMap ics)) ∧ (∃ ts', ts'.Perm (M.truths f) ∧ Wc w' f Aw At Ar nw cw nt ct nr cr Ts Ss ns cs ms ds p mb b0 ts' (M.stands f)) ∧ Mt mb (Value.slice Ts ns cs).ownBlock W w' from by rw [← hnw]; exact few_c f Aw At Ar nw cw nt ct nr cr Ts Ss ns cs ms ds p mb b0 (M.truths f) (M.stands f) hc0 hts W hW))
 have hwl : f.wet.length = nw := hs.w_.len
 have HFL := hid (show (M.few f (M.truths f)).length ≤ 20 from by
  have h := M.first_small (fun plan => (M.truths f).all fun t => M.stays f t plan) f.wet.length (f.wet.length + 1) 0
  have h2 : (M.few f (M.truths f)).length ≤ 0 + (f.wet.length + 1) := h
  omega)
 have HPA := hid (fun (ts' : List M.Tr) (hpm : ts'.Perm (M.truths f)) => perm_all hpm fun t => M.stays f t (M.few f (M.truths f)))
 clear h0 hs hne
 go_enter Try.func48, Try.ntmps48
 have hE0 : Ev w (w.alloc (.cells #[.int .i64 f.last, .int .i64 f.size, .int .i64 f.cool, .int .i64 f.die, .int .i64 f.burn, .int .i64 f.st.lo, .int .i64 f.st.hi, .slice Aw nw cw, .slice At nt ct, .slice Ar nr cr] 40)) := Ev.alloc (Ev.refl _) _
 obtain ⟨y0, y1, y2, y3, y4, y5, y6, y7, y8, y9⟩ := cells10 (alloc1 w (.cells #[.int .i64 f.last, .int .i64 f.size, .int .i64 f.cool, .int .i64 f.die, .int .i64 f.burn, .int .i64 f.st.lo, .int .i64 f.st.hi, .slice Aw nw cw, .slice At nt ct, .slice Ar nr cr] 40)).1
 go_upto_region 4 with (go_at_call 74; with_reducible refine (HBG.out _ hE0).mono ?_; rintro e w5 ⟨⟨Ts, Ss, ns, cs, ms, ds, p, mb, rfl, hwc⟩, hb5⟩; have hE5 := hE0.trans hb5; have HWB := hid (show ∃ b0, w.heap.size ≤ b0 ∧ Wc w5 f Aw At Ar nw cw nt ct nr cr Ts Ss ns cs ms ds p mb b0 (M.truths f) (M.stands f) from ⟨_, hE0.size, hwc⟩); clear hwc)
 clear y0 y1 y2 y3 y4 y5 y6 y7 y8 y9
 obtain ⟨y0, y1, y2, y3, y4, y5, y6, y7, y8, y9⟩ := cells10 (hb5.heap (alloc1 w (.cells #[.int .i64 f.last, .int .i64 f.size, .int .i64 f.cool, .int .i64 f.die, .int .i64 f.burn, .int .i64 f.st.lo, .int .i64 f.st.hi, .slice Aw nw cw, .slice At nt ct, .slice Ar nr cr] 40)).1)
 obtain ⟨b0, hb0, hw5⟩ := HWB.out
 have HW5 := hid hw5
 clear hw5
 have hbS : Ev w5 (w5.alloc (.cells #[.pointer (some ⟨p, 0, none⟩), .int .i64 (f.last + 1), .func (.func 77) #[] #[]] 124)) := Ev.alloc (Ev.refl _) _
 have hE6 := hE5.trans hbS
 have hs5 := hE5.size
 have hs0 := hE0.size
 have HSH := hid (HFG.out Ts Ss ns cs ms ds p mb b0 (w5.alloc (.cells #[.pointer (some ⟨p, 0, none⟩), .int .i64 (f.last + 1), .func (.func 77) #[] #[]] 124)) (HW5.out.ev (Ev.alloc (Ev.refl _) _)))
 have HKX := hid (fun B d ts' w7 (hpm : ts'.Perm (M.truths f)) (hW : Wc w7 f Aw At Ar nw cw nt ct nr cr Ts Ss ns cs ms ds p mb b0 ts' (M.stands f)) (hown : w7.ownsRow (w5.alloc (.cells #[.pointer (some ⟨p, 0, none⟩), .int .i64 (f.last + 1), .func (.func 77) #[] #[]] 124)).heap.size 3 1 (.slice B (M.few f (M.truths f)).length d) (M.few f (M.truths f)).length ((M.few f (M.truths f)).flatMap ics)) => (show Calls Try.prog 77 #[.pointer (some ⟨p, 0, none⟩), .slice B (M.few f (M.truths f)).length d] w7 fun e w' => e = .returned (.bool ((M.truths f).all fun t => M.stays f t (M.few f (M.truths f)))) ∧ Mt mb (Value.slice Ts ns cs).ownBlock w7 w' ∧ w'.ownsRow w.heap.size 3 1 (.slice B (M.few f (M.truths f)).length d) (M.few f (M.truths f)).length ((M.few f (M.truths f)).flatMap ics) from by
  refine (HKG.out Ts Ss ns cs ms ds p mb b0 ts' w7 hpm hW B d (sl_own (enc := ics) (by decide) (ics_len _) (by have := HFL.out; omega) hown)).mono ?_
  rintro e w' ⟨h1, h2, h3⟩
  obtain ⟨g1, _, hm1⟩ := hW.mp
  obtain ⟨_, ho1, _⟩ := hW.tr
  exact ⟨by rw [h1, HPA.out ts' hpm], h3, own_base (own_mt hown hm1 ho1 (by decide) h3) (by have := hE6.size; exact this)⟩))
 have hm0 := HW5.out.b1
 have htb := HW5.out.tb
 have HFIN := hid (fun w7 w8 (h7 : Mt mb (Value.slice Ts ns cs).ownBlock (w5.alloc (.cells #[.pointer (some ⟨p, 0, none⟩), .int .i64 (f.last + 1), .func (.func 77) #[] #[]] 124)) w7) (h8 : Mt mb (Value.slice Ts ns cs).ownBlock w7 w8) => Mt.evr hE6 (h7.trans h8) (by omega) (fun j hj => by have := htb j hj; omega))
 rw [hq] at HKX
 clear hq HKG HFG
 go_wp2_with (first | (go_at_call 83; refine HSH.out.mono ?_; rintro e w7 ⟨⟨B, d, rfl, hown⟩, ⟨ts', hpm, hw7⟩, hm7⟩; have HKA := hid (HKX.out B d ts' w7 hpm hw7 hown); have HM7 := hid hm7; have HO7 := hid hown; have HW7 := hid hw7; clear hpm hw7 hm7 hown) | (go_at_call 77; refine HKA.out.mono ?_; rintro e w8 ⟨rfl, hm8⟩))
 go_ret2
 exact ⟨⟨B, d, rfl, hm8.2⟩, HFIN.out _ _ HM7.out hm8.1⟩

set_option maxRecDepth 100000 in
set_option maxHeartbeats 4000000 in
theorem Fewest_short (f : M.Cf) (Aw At Ar : Option Addr) (nw cw nt ct nr cr : Nat) (hl0 : -9223372036854775808 ≤ f.last) (w : World) (hs : CS w w.heap.size f Aw At Ar nw cw nt ct nr cr) (h0 : M.begin f true = 0) (hq : ((M.truths f).all fun t => M.stays f t (M.few f (M.truths f))) = false) :
  Calls Try.prog 48 #[.agg #[.int .i64 f.last, .int .i64 f.size, .int .i64 f.cool, .int .i64 f.die, .int .i64 f.burn, .int .i64 f.st.lo, .int .i64 f.st.hi, .slice Aw nw cw, .slice At nt ct, .slice Ar nr cr]] w fun e w' => e = .returned (.tuple #[.slice none 0 0, .int .i64 10]) ∧ Ev w w' := by
 obtain ⟨hc0, _, hne⟩ := M.begin0 h0
 have hts := M.truths_listed hc0
 have hnw : (nw : Int) = f.last + 1 := by
  have hvp := M.valid_parts (M.check0 hc0).2.2.1
  have := hs.w_.len
  omega
 have hl9 := (M.check0 hc0).1
 have HBG := hid (fun W (hE : Ev w W) => begin_ok f Aw At Ar nw cw nt ct nr cr hl0 true h0 W (hs.ev hE))
 have HKG := hid (fun (Ts Ss : Option Addr) (ns cs ms ds p mb : Nat) b0 ts' W (hpm : ts'.Perm (M.truths f)) (hW : Wc W f Aw At Ar nw cw nt ct nr cr Ts Ss ns cs ms ds p mb b0 ts' (M.stands f)) (B : Option Addr) (d : Nat) (hsl : Sl ics 1 W W.heap.size B (M.few f (M.truths f)).length d (M.few f (M.truths f))) => keepsAlways_c f Aw At Ar nw cw nt ct nr cr Ts Ss ns cs ms ds p mb B (M.few f (M.truths f)).length d (M.few f (M.truths f)) b0 ts' (M.stands f) hc0 (fun t ht => hts t (hpm.mem_iff.1 ht)) W hW hsl)
 have HFG := hid (fun (Ts Ss : Option Addr) (ns cs ms ds p mb : Nat) b0 W (hW : Wc W f Aw At Ar nw cw nt ct nr cr Ts Ss ns cs ms ds p mb b0 (M.truths f) (M.stands f)) => (show Calls Try.prog 83 #[.agg #[.pointer (some ⟨p, 0, none⟩), .int .i64 (f.last + 1), .func (.func 77) #[] #[]]] W fun e w' => (∃ B d, e = .returned (.slice B (M.few f (M.truths f)).length d) ∧ w'.ownsRow W.heap.size 3 1 (.slice B (M.few f (M.truths f)).length d) (M.few f (M.truths f)).length ((M.few f (M.truths f)).flatMap ics)) ∧ (∃ ts', ts'.Perm (M.truths f) ∧ Wc w' f Aw At Ar nw cw nt ct nr cr Ts Ss ns cs ms ds p mb b0 ts' (M.stands f)) ∧ Mt mb (Value.slice Ts ns cs).ownBlock W w' from by rw [← hnw]; exact few_c f Aw At Ar nw cw nt ct nr cr Ts Ss ns cs ms ds p mb b0 (M.truths f) (M.stands f) hc0 hts W hW))
 have hwl : f.wet.length = nw := hs.w_.len
 have HFL := hid (show (M.few f (M.truths f)).length ≤ 20 from by
  have h := M.first_small (fun plan => (M.truths f).all fun t => M.stays f t plan) f.wet.length (f.wet.length + 1) 0
  have h2 : (M.few f (M.truths f)).length ≤ 0 + (f.wet.length + 1) := h
  omega)
 have HPA := hid (fun (ts' : List M.Tr) (hpm : ts'.Perm (M.truths f)) => perm_all hpm fun t => M.stays f t (M.few f (M.truths f)))
 clear h0 hs hne
 go_enter Try.func48, Try.ntmps48
 have hE0 : Ev w (w.alloc (.cells #[.int .i64 f.last, .int .i64 f.size, .int .i64 f.cool, .int .i64 f.die, .int .i64 f.burn, .int .i64 f.st.lo, .int .i64 f.st.hi, .slice Aw nw cw, .slice At nt ct, .slice Ar nr cr] 40)) := Ev.alloc (Ev.refl _) _
 obtain ⟨y0, y1, y2, y3, y4, y5, y6, y7, y8, y9⟩ := cells10 (alloc1 w (.cells #[.int .i64 f.last, .int .i64 f.size, .int .i64 f.cool, .int .i64 f.die, .int .i64 f.burn, .int .i64 f.st.lo, .int .i64 f.st.hi, .slice Aw nw cw, .slice At nt ct, .slice Ar nr cr] 40)).1
 go_upto_region 4 with (go_at_call 74; with_reducible refine (HBG.out _ hE0).mono ?_; rintro e w5 ⟨⟨Ts, Ss, ns, cs, ms, ds, p, mb, rfl, hwc⟩, hb5⟩; have hE5 := hE0.trans hb5; have HWB := hid (show ∃ b0, w.heap.size ≤ b0 ∧ Wc w5 f Aw At Ar nw cw nt ct nr cr Ts Ss ns cs ms ds p mb b0 (M.truths f) (M.stands f) from ⟨_, hE0.size, hwc⟩); clear hwc)
 clear y0 y1 y2 y3 y4 y5 y6 y7 y8 y9
 obtain ⟨y0, y1, y2, y3, y4, y5, y6, y7, y8, y9⟩ := cells10 (hb5.heap (alloc1 w (.cells #[.int .i64 f.last, .int .i64 f.size, .int .i64 f.cool, .int .i64 f.die, .int .i64 f.burn, .int .i64 f.st.lo, .int .i64 f.st.hi, .slice Aw nw cw, .slice At nt ct, .slice Ar nr cr] 40)).1)
 obtain ⟨b0, hb0, hw5⟩ := HWB.out
 have HW5 := hid hw5
 clear hw5
 have hbS : Ev w5 (w5.alloc (.cells #[.pointer (some ⟨p, 0, none⟩), .int .i64 (f.last + 1), .func (.func 77) #[] #[]] 124)) := Ev.alloc (Ev.refl _) _
 have hE6 := hE5.trans hbS
 have hs5 := hE5.size
 have hs0 := hE0.size
 have HSH := hid (HFG.out Ts Ss ns cs ms ds p mb b0 (w5.alloc (.cells #[.pointer (some ⟨p, 0, none⟩), .int .i64 (f.last + 1), .func (.func 77) #[] #[]] 124)) (HW5.out.ev (Ev.alloc (Ev.refl _) _)))
 have HKX := hid (fun B d ts' w7 (hpm : ts'.Perm (M.truths f)) (hW : Wc w7 f Aw At Ar nw cw nt ct nr cr Ts Ss ns cs ms ds p mb b0 ts' (M.stands f)) (hown : w7.ownsRow (w5.alloc (.cells #[.pointer (some ⟨p, 0, none⟩), .int .i64 (f.last + 1), .func (.func 77) #[] #[]] 124)).heap.size 3 1 (.slice B (M.few f (M.truths f)).length d) (M.few f (M.truths f)).length ((M.few f (M.truths f)).flatMap ics)) => (show Calls Try.prog 77 #[.pointer (some ⟨p, 0, none⟩), .slice B (M.few f (M.truths f)).length d] w7 fun e w' => e = .returned (.bool ((M.truths f).all fun t => M.stays f t (M.few f (M.truths f)))) ∧ Mt mb (Value.slice Ts ns cs).ownBlock w7 w' ∧ w'.ownsRow w.heap.size 3 1 (.slice B (M.few f (M.truths f)).length d) (M.few f (M.truths f)).length ((M.few f (M.truths f)).flatMap ics) from by
  refine (HKG.out Ts Ss ns cs ms ds p mb b0 ts' w7 hpm hW B d (sl_own (enc := ics) (by decide) (ics_len _) (by have := HFL.out; omega) hown)).mono ?_
  rintro e w' ⟨h1, h2, h3⟩
  obtain ⟨g1, _, hm1⟩ := hW.mp
  obtain ⟨_, ho1, _⟩ := hW.tr
  exact ⟨by rw [h1, HPA.out ts' hpm], h3, own_base (own_mt hown hm1 ho1 (by decide) h3) (by have := hE6.size; exact this)⟩))
 have hm0 := HW5.out.b1
 have htb := HW5.out.tb
 have HFIN := hid (fun w7 w8 (h7 : Mt mb (Value.slice Ts ns cs).ownBlock (w5.alloc (.cells #[.pointer (some ⟨p, 0, none⟩), .int .i64 (f.last + 1), .func (.func 77) #[] #[]] 124)) w7) (h8 : Mt mb (Value.slice Ts ns cs).ownBlock w7 w8) => Mt.evr hE6 (h7.trans h8) (by omega) (fun j hj => by have := htb j hj; omega))
 rw [hq] at HKX
 clear hq HKG HFG
 go_wp2_with (first | (go_at_call 83; refine HSH.out.mono ?_; rintro e w7 ⟨⟨B, d, rfl, hown⟩, ⟨ts', hpm, hw7⟩, hm7⟩; have HKA := hid (HKX.out B d ts' w7 hpm hw7 hown); have HM7 := hid hm7; have HO7 := hid hown; have HW7 := hid hw7; clear hpm hw7 hm7 hown) | (go_at_call 77; refine HKA.out.mono ?_; rintro e w8 ⟨rfl, hm8⟩))
 go_ret2
 exact ⟨rfl, HFIN.out _ _ HM7.out hm8.1⟩

end Go.Proofs.Ytgimcephbeajlaa
