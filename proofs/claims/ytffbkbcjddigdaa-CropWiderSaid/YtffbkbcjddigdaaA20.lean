import Derived.Test.YtffbkbcjddigdaaA16
set_option linter.unusedSimpArgs false
set_option linter.unusedVariables false
namespace Go.Proofs.Ytffbkbcjddigdaa
open Go.RowKit

theorem eqI_nil (c : Nat) (wx : World) : (binOp .eql 23 (.slice none 0 c) (.slice none 0 0)).run Try.prog wx = .ok (.bool true) wx := by
 simp [binOp, Op.equal, Op.maxDepth, Lib.run_equalIn_slice_nil wx 9999 23 3 none 0 c 0 0 Try.underlying23]
theorem neI_nil (ad : Addr) (n c : Nat) (wx : World) : (binOp .eql 23 (.slice (some ad) n c) (.slice none 0 0)).run Try.prog wx = .ok (.bool false) wx := by
 simp [binOp, Op.equal, Op.maxDepth, Lib.run_equalIn_slice_nil wx 9999 23 3 (some ad) n c 0 0 Try.underlying23]

set_option maxRecDepth 100000 in
set_option maxHeartbeats 1000000 in
theorem cloneI_c (A : Option Addr) (n c : Nat) (xs : List Int) (hn : n ≤ 1000) (w : World) (hs : Sl ics 1 w w.heap.size A n c xs) :
  Calls Try.prog 104 #[.slice A n c] w fun e w' => (∃ B d, e = .returned (.slice B n d) ∧ w'.ownsRow w.heap.size 3 1 (.slice B n d) n (xs.flatMap ics)) ∧ Ev w w' := by
 obtain ⟨i0, hi0, hz0, hz1, hz2⟩ := info_parts info3
 cases A with
 | none =>
  have hm0 : n = 0 := by
   rcases Nat.eq_zero_or_pos n with h | h
   ·
    exact h
   ·
    obtain ⟨b, off, hA, _⟩ := hs.cells h; cases hA
  subst hm0
  obtain rfl : xs = [] := List.eq_nil_of_length_eq_zero hs.len
  have hq : ∀ wx : World, (binOp .eql 23 (.slice none 0 c) (.slice none 0 0)).run Try.prog wx = .ok (.bool true) wx := fun wx => eqI_nil c wx
  go_enter Try.func104, Try.ntmps104
  go_wp2
  go_ret
  exact ⟨⟨none, 0, rfl, World.ownsRow_nil _ _ _ _⟩, Ev.refl _⟩
 | some ad =>
  have HS := hid hs
  have hq : ∀ wx : World, (binOp .eql 23 (.slice (some ad) n c) (.slice none 0 0)).run Try.prog wx = .ok (.bool false) wx := fun wx => neI_nil ad n c wx
  clear hs
  go_enter Try.func104, Try.ntmps104
  go_wp2_with (at_builtin; refine append_sl (enc := ics) rfl (.tmp 5) (.tmp 6) 23 rfl w.heap.size 3 i0 _ 1 8 Try.underlying23 hi0 hz0 hz1 hz2 rfl (by decide) _ 0 [] rfl (World.ownsRow_lit w _ 0 (Nat.le_refl _) (by decide) rfl) (some ad) n c xs _ rfl (HS.out.ev (Ev.alloc (Ev.refl _) _)) (ics_len _) (ics_one _) (fun h => by cases h) (by unfold maxLen; omega) (by omega) (by simp) ?_; intro v' w3 hown' hgrow; have hown2 : w3.ownsRow w.heap.size 3 1 v' n (xs.flatMap ics) := (by simpa using hown'); obtain ⟨B, d, rfl⟩ := own_form hown2; have HG := hid hgrow; have HO := hid hown2; clear hown' hown2 hgrow)
  go_ret
  exact ⟨⟨B, d, rfl, HO.out⟩, Ev.grown (Ev.alloc (Ev.refl _) _) HG.out (fun k e => by have e2 : some w.heap.size = some k := e; simp at e2; omega)⟩

end Go.Proofs.Ytffbkbcjddigdaa

set_option linter.unusedSimpArgs false
set_option linter.unusedVariables false
namespace Go.Proofs.Ytffbkbcjddigdaa
open Go.RowKit Go.Shelf
attribute [local go_sem] Oper.semAt_some

def M.parts (f : M.Cf) : List (List Int) := (M.ranges f).map fun r => M.fromTo r.lo (r.hi - r.lo + 1).toNat
def M.cutAt (weeks : Nat) (x : List Int) : M.Tr := ⟨x.take weeks, x.drop weeks⟩
/-- All truths without regard to looks. -/
def M.allTruths (f : M.Cf) : List M.Tr := (M.choices (M.parts f)).map (M.cutAt (f.last + 1).toNat)
/-- What the iterator over truths hands over. -/
def thHx (_ B : Nat) (t : M.Tr) (av : Array Value) (W : World) : Prop :=
 ∃ B1 d1 B2 d2 n1 n2, av = #[.agg #[.slice B1 n1 d1, .slice B2 n2 d2]] ∧ W.ownsRow B 3 1 (.slice B1 n1 d1) n1 (t.gr.flatMap ics) ∧ W.ownsRow B 3 1 (.slice B2 n2 d2) n2 (t.wet.flatMap ics) ∧ n1 ≤ 100 ∧ n2 ≤ 100

def RowsB (b0 : Nat) (W : World) (vs : List Hd) (xs : List (List Int)) : Prop :=
 vs.length = xs.length ∧ ∀ (j : Nat) (v : Hd) (x : List Int), vs[j]? = some v → xs[j]? = some x → W.ownsRow b0 3 1 (.slice v.1 v.2.1 v.2.2) v.2.1 (x.flatMap ics) ∧ v.2.1 ≤ 1000
theorem RowsB.nil (b0 : Nat) (W : World) : RowsB b0 W [] [] := ⟨rfl, fun j v x h => by simp at h⟩
theorem RowsB.ev {b0 : Nat} {W W' : World} {vs : List Hd} {xs : List (List Int)} (h : RowsB b0 W vs xs) (he : Ev W W') : RowsB b0 W' vs xs :=
 ⟨h.1, fun j v x hv hx => ⟨(h.2 j v x hv hx).1.ev he, (h.2 j v x hv hx).2⟩⟩
theorem RowsB.grown {b0 : Nat} {w w' : World} {vs : List Hd} {xs : List (List Int)} (h : RowsB b0 w vs xs) {n2 : Nat} {v2 : Value} {x2 : List Value} (h2 : w.ownsRow b0 23 1 v2 n2 x2) (hg : w.grownBy w' v2.ownBlock) : RowsB b0 w' vs xs :=
 ⟨h.1, fun j v x hv hx => ⟨(h.2 j v x hv hx).1.kept hg (own_ne h2 (h.2 j v x hv hx).1 (by decide)), (h.2 j v x hv hx).2⟩⟩
theorem RowsB.snoc {b0 : Nat} {W : World} {vs : List Hd} {xs : List (List Int)} (h : RowsB b0 W vs xs) {v : Hd} {x : List Int} (hx : W.ownsRow b0 3 1 (.slice v.1 v.2.1 v.2.2) v.2.1 (x.flatMap ics)) (hn : v.2.1 ≤ 1000) : RowsB b0 W (vs ++ [v]) (xs ++ [x]) := by
 refine ⟨by simp [h.1], fun j u y hu hy => ?_⟩
 rcases Nat.lt_or_ge j vs.length with hj | hj
 ·
  rw [List.getElem?_append_left hj] at hu
  rw [List.getElem?_append_left (by rw [← h.1]; exact hj)] at hy
  exact h.2 j u y hu hy
 ·
  rw [List.getElem?_append_right hj] at hu
  rw [List.getElem?_append_right (by rw [← h.1]; exact hj), ← h.1] at hy
  have h0 : j - vs.length = 0 := by
   rcases Nat.eq_zero_or_pos (j - vs.length) with h0 | h0
   ·
    exact h0
   ·
    rw [List.getElem?_eq_none (by simp; omega)] at hu; cases hu
  rw [h0] at hu hy
  simp at hu hy
  subst hu hy
  exact ⟨hx, hn⟩

theorem RowsB.pr {b0 : Nat} {W : World} {vs : List Hd} {xs : List (List Int)} (h : RowsB b0 W vs xs) {V : Option Addr} {L cc : Nat} (hL : L ≤ 100) (hh : W.ownsRow b0 23 1 (.slice V L cc) L (vs.flatMap hdc)) :
  PR (fun k => b0 ≤ k ∧ k < W.heap.size) W V L vs xs := by
 have hs := sl_own (enc := hdc) (by decide) (hdc_len vs) (by omega) hh
 refine ⟨by rw [← h.1]; exact hs.len, fun t ht => ?_⟩
 obtain ⟨b, off, rfl, hlt, hc⟩ := hs.cells (by omega)
 have hv : vs[t]? = some (vs[t]'(by rw [hs.len]; exact ht)) := List.getElem?_eq_getElem _
 generalize vs[t]'(by rw [hs.len]; exact ht) = v at hv
 have hx : xs[t]? = some (xs[t]'(by rw [← h.1, hs.len]; exact ht)) := List.getElem?_eq_getElem _
 generalize xs[t]'(by rw [← h.1, hs.len]; exact ht) = x at hx
 obtain ⟨hr, hn⟩ := h.2 t v x hv hx
 have hrs := sl_own (enc := ics) (by decide) (ics_len x) (by omega) hr
 have hcell := hc t v hv 0 _ rfl
 refine ⟨b, off, v.1, v.2.1, v.2.2, x, rfl, ⟨(hh.lt b rfl).1, hlt⟩, hv, by simpa using hcell, hx, hrs.len, hrs.cap, hn, fun j y hj => ?_⟩
 obtain ⟨b', o', hA, hlt', hc'⟩ := hrs.cells (by have := (List.getElem?_eq_some_iff.1 hj).1; have := hrs.len; omega)
 have hcell' := hc' j y hj 0 _ rfl
 exact ⟨b', o', hA, ⟨(hr.lt b' (by rw [hA]; rfl)).1, hlt'⟩, by simpa using hcell'⟩

theorem one2 (ys : List Hd) : ∀ u ∈ ys.flatMap hdc, u.oneCell' = true := by
 intro u hu
 obtain ⟨y, _, hy⟩ := List.mem_flatMap.1 hu
 simp [hdc] at hy
 subst hy; rfl

end Go.Proofs.Ytffbkbcjddigdaa

set_option linter.unusedSimpArgs false
set_option linter.unusedVariables false
namespace Go.Proofs.Ytffbkbcjddigdaa
open Go.RowKit Go.Shelf
attribute [local go_sem] Oper.semAt_some

theorem own_base {w : World} {b b' : Nat} {e : TypeId} {size : Nat} {v : Value} {n : Nat} {xs : List Value} (h : w.ownsRow b e size v n xs) (hb : b' ≤ b) : w.ownsRow b' e size v n xs := by
 refine ⟨h.1, ?_⟩
 rcases h.2 with hn | ⟨g, cap, cur, h1, h2, rest⟩
 ·
  exact .inl hn
 ·
  exact .inr ⟨g, cap, cur, h1, Nat.le_trans hb h2, rest⟩
theorem Sl.take {α : Type} {enc : α → List Value} {sz : Nat} {w : World} {B : Nat} {A : Option Addr} {n c : Nat} {xs : List α} (h : Sl enc sz w B A n c xs) {j : Nat} (hj : j ≤ n) : Sl enc sz w B A j c (xs.take j) := by
 refine ⟨by rw [List.length_take, h.len]; omega, by have := h.cap; omega, by have := h.small; omega, fun h0 => ?_⟩
 obtain ⟨b, off, hA, hlt, hc⟩ := h.cells (by omega)
 refine ⟨b, off, hA, hlt, fun k x hk => hc k x ?_⟩
 rw [List.getElem?_take] at hk
 split at hk
 ·
  exact hk
 ·
  cases hk
theorem Sl.drop {α : Type} {enc : α → List Value} {sz : Nat} {w : World} {B b off : Nat} {n c : Nat} {xs : List α} (h : Sl enc sz w B (some ⟨b, off, none⟩) n c xs) {j : Nat} (hj : j ≤ n) : Sl enc sz w B (some ⟨b, off + j * sz, none⟩) (n - j) (c - j) (xs.drop j) := by
 refine ⟨by rw [List.length_drop, h.len], by have := h.cap; omega, by have := h.small; omega, fun h0 => ?_⟩
 obtain ⟨b', off', hA, hlt, hc⟩ := h.cells (by omega)
 simp only [Option.some.injEq, Addr.mk.injEq, and_true] at hA
 obtain ⟨rfl, rfl⟩ := hA
 refine ⟨b, off + j * sz, rfl, hlt, fun k x hk i v hv => ?_⟩
 rw [List.getElem?_drop] at hk
 have := hc (j + k) x hk i v hv
 rw [Nat.add_mul] at this
 rw [show off + j * sz + k * sz + i = off + (j * sz + k * sz) + i from by omega]
 exact this
theorem slice_h (ad : Option Addr) (m d h : Nat) (hh : h ≤ d) (wx : World) : (Instr.slice 23 (.slice ad m d) none (some (.int .i64 h)) none).run Try.prog wx = .ok (.slice ad h d) wx ∧ (Instr.sliceAt 23 (.slice ad m d) none (some (.int .i64 h)) none).run Try.prog wx = .ok (.slice ad h d) wx := by
 have he : Try.prog.elem 23 = 3 := by kernel_rfl
 have hu : Try.prog.underlying 23 = some (.slice (Try.prog.elem 23)) := by rw [he]; exact Try.underlying23
 have hr : (Instr.slice 23 (.slice ad m d) none (some (.int .i64 h)) none).run Try.prog wx = .ok (.slice ad h d) wx := by
  rw [run_slice_h wx 23 _ _ _ hu .i64 h (by omega) (by omega), he, Try.sizeOf3]
  simp only [Result.andThen_ok, sliced]
  cases ad <;> simp [Addr.add]
 exact ⟨hr, by rw [run_sliceAt_slice wx 23 _ _ _ _ hu]; exact hr⟩
theorem slice_l (b off m d l : Nat) (hl : l ≤ m) (hd : l < d) (wx : World) : (Instr.slice 23 (.slice (some ⟨b, off, none⟩) m d) (some (.int .i64 l)) none none).run Try.prog wx = .ok (.slice (some ⟨b, off + l, none⟩) (m - l) (d - l)) wx ∧ (Instr.sliceAt 23 (.slice (some ⟨b, off, none⟩) m d) (some (.int .i64 l)) none none).run Try.prog wx = .ok (.slice (some ⟨b, off + l, none⟩) (m - l) (d - l)) wx := by
 have he : Try.prog.elem 23 = 3 := by kernel_rfl
 have hu : Try.prog.underlying 23 = some (.slice (Try.prog.elem 23)) := by rw [he]; exact Try.underlying23
 have hr : (Instr.slice 23 (.slice (some ⟨b, off, none⟩) m d) (some (.int .i64 l)) none none).run Try.prog wx = .ok (.slice (some ⟨b, off + l, none⟩) (m - l) (d - l)) wx := by
  rw [run_slice_l wx 23 _ _ _ hu .i64 l (by omega) (by omega), he, Try.sizeOf3]
  simp only [Result.andThen_ok, sliced, Int.toNat_natCast]
  have hne : ¬ l = d := by omega
  simp [hne, Addr.add]
  try (split <;> simp_all)
 exact ⟨hr, by rw [run_sliceAt_slice wx 23 _ _ _ _ hu]; exact hr⟩
theorem roundIn_in {F : Fence} {n : Nat} {P : Program} {l : Nat} {f : FuncId} {tmps : Array Value} {a b : Code} {w : World} {R : Ending → World → Prop} (l' : Nat) (h : RoundIn F n P l f tmps a b w R) : RoundIn (F.inRound l') n P l f tmps a b w R := h
theorem M.parts_len (f : M.Cf) : (M.parts f).length = (M.ranges f).length := by simp [M.parts]
theorem M.choices_len : ∀ (ps : List (List Int)) (x : List Int), x ∈ M.choices ps → x.length = ps.length
 | [], x, h => by rw [show x = [] by simpa [M.choices] using h]; rfl
 | p :: ps, x, h => by
  unfold M.choices at h
  obtain ⟨y, _, h⟩ := List.mem_flatMap.1 h
  obtain ⟨z, hz, rfl⟩ := List.mem_map.1 h
  rw [List.length_cons, List.length_cons, M.choices_len ps z hz]

set_option maxRecDepth 100000 in
set_option maxHeartbeats 8000000 in
theorem truths_seq (n : Nat) (f : M.Cf) (Ag Aw Ab Ac Al : Option Addr) (ng cg nw cw nb cb nc cc nl cl : Nat) (fp weeks : Nat) (hv : M.valid f = true) (hlast : f.last + 1 = weeks) (h10 : weeks ≤ 10) (w0 : World) (hs : CS w0 w0.heap.size f Ag Aw Ab Ac Al ng cg nw cw nb cb nc cc nl cl) (hfp : w0.heap[fp]? = some (.cells #[.int .i64 f.last, .slice Ag ng cg, .slice Aw nw cw, .slice Ab nb cb, .slice Ac nc cc, .int .i64 f.ripe, .int .i64 f.late, .int .i64 f.trod, .slice Al nl cl] 38 (0, 0))) :
  SeqY Fence.wide (n + 4) Try.prog 115 #[.pointer (some ⟨fp, 0, none⟩)] thHx (fun _ => False) (M.allTruths f) w0 := by
 intro l J Jx W hW hJ hJx hY h0
 have hdd : ∀ k : Nat, (Fence.wide.depth.isSome = true → 1 ≤ k) := fun k h => by cases h
 have hfW := (hW.block fp (heap_lt hfp)).trans hfp
 have hsW : CS W W.heap.size f Ag Aw Ab Ac Al ng cg nw cw nb cb nc cc nl cl := hs.ev hW
 have hrb := M.ranges_bd hv
 obtain ⟨v1, v2, _, v4, _⟩ := M.valid_parts hv
 have hw1 : 1 ≤ weeks := by omega
 have hng : ng = weeks := by have := hsW.g.len; omega
 have hnw : nw = weeks := by have := hsW.w_.len; omega
 have hRG := fun W' (hE : Ev W W') => (callsIn_wide (n := n + 3)).2 (ranges_c f Ag Aw Ab Ac Al ng cg nw cw nb cb nc cc nl cl (by omega) (by omega) W' (hsW.ev hE))
 have hrl : (M.ranges f).length = weeks + weeks := by have := hsW.g.len; have := hsW.w_.len; simp [M.ranges]; omega
 have hAT : M.allTruths f = (M.choices (M.parts f)).map (M.cutAt weeks) := by unfold M.allTruths; rw [hlast, Int.toNat_natCast]
 have hPL : (M.parts f).length = weeks + weeks := by rw [M.parts_len, hrl]
 have hPT : ∀ (k : Nat) (r : M.Rg), (M.ranges f)[k]? = some r → (M.parts f)[k]? = some (M.fromTo r.lo (r.hi - r.lo + 1).toNat) := fun k r h => by unfold M.parts; rw [List.getElem?_map, h]; rfl
 obtain ⟨N, hN⟩ : ∃ N, N = ng + nw := ⟨_, rfl⟩
 have hN2 : N = weeks + weeks := by omega
 rw [← hN] at hRG
 rw [← hN2] at hrl hPL
 have hN20 : N ≤ 20 := by omega
 generalize M.ranges f = rs at hRG hrb hrl hPT
 generalize M.parts f = parts at hPL hPT hAT
 have HRG := hid hRG
 have HRB := hid hrb
 have HPT := hid hPT
 have HAT := hid hAT
 have HN2 := hid hN2
 have HLA := hid hlast
 have HJ := hid hJ
 have HJX := hid hJx
 have HY := hid hY
 have H0 := hid h0
 have HFW := hid hfW
 have HPL := hid hPL
 have i30 : IntKind.i64.wrap (f.last + 1) = (weeks : Int) := by rw [hlast]; exact IntWalk.i64_in _ (by omega)
 have i31 : wrap64 (f.last + 1) = (weeks : Int) := by rw [hlast]; unfold wrap64; omega
 clear hv hRG hrb hPT hAT hN hN2 hng hnw hsW hs hlast hJ hJx hY h0 v1 v2 v4 hPL
 refine callsIn_of_wp_marks Try.func115 rfl trivial ?_ rfl
 simp only [Try.ntmps115, List.size_toArray, List.length_cons, List.length_nil, Nat.reduceAdd, Nat.reduceSub, Array.replicate_succ, Array.replicate_zero, List.push_toArray, List.append_toArray, List.nil_append, List.cons_append]
 have hal := alloc1 W (.cells #[.func (.yield l) #[] #[]] 104)
 have HYB := hid hal.1
 obtain ⟨y0, y1, y2, y3, y4, y5, y6, y7, y8⟩ := cells9 (heap_old (.cells #[.func (.yield l) #[] #[]] 104) hfW)
 clear hal hfW
 gi_wp2_with ((try refine ⟨trivial, ?_⟩); (try refine ⟨trivial, hdd _, ?_⟩); (try refine ⟨hdd _, ?_⟩); gi_at_call 82; with_reducible refine (HRG.out _ (Ev.alloc (Ev.refl _) _)).mono ?_; rintro e w1 ⟨⟨B0, d0, rfl, hr0⟩, hb1⟩; have HR0 := hid hr0; clear hr0)
 have hEW1 : Ev W w1 := Ev.trans (Ev.alloc (Ev.refl _) _) hb1
 have HY1 := hid (hb1.heap HYB.out)
 have hs1 := hEW1.size
 have hsl1 := HY1.out
 have hW1 : W.heap.size < w1.heap.size := heap_lt hsl1
 clear hsl1 y0 y1 y2 y3 y4 y5 y6 y7 y8
 obtain ⟨i0, hi0, hz0, hz1, hz2⟩ := info_parts info27
 have hr := HR0.out
 have rsm := hr.small
 gi_loopw [3, 11] (fun v i wr => ∃ k : Nat, ∃ V : Option Addr, ∃ ch : Nat, ∃ vs : List Hd, v = .slice V k ch ∧ i = .int .i64 k ∧ k ≤ N ∧ Ev w1 wr ∧ wr.ownsRow w1.heap.size 23 1 (.slice V k ch) k (vs.flatMap hdc) ∧ RowsB w1.heap.size wr vs (parts.take k)) (fun _ i _ => N - (intOf i).toNat)
 case atStart => exact ⟨0, none, 0, [], rfl, rfl, by omega, Ev.refl _, World.ownsRow_nil _ _ _ _, RowsB.nil _ _⟩
 case round =>
  obtain ⟨k, V, ch, vs, rfl, rfl, hk, hB, hown, hrow⟩ := hrel
  have hBs := hB.size
  by_cases hlt : k < N
  ·
   obtain ⟨b, off, r, rfl, hb, hx, hd, hc⟩ := hr.at_ hB hlt
   have e0 := hc 0 _ rfl
   have e1 := hc 1 _ rfl
   simp only [Nat.add_zero] at e0
   have hcap := hr.cap
   have hrbd := HRB.out r (List.mem_of_getElem? hx)
   have HTK := hid (show parts.take (k + 1) = parts.take k ++ [M.fromTo r.lo (r.hi - r.lo + 1).toNat] by rw [List.take_add_one, HPT.out k r hx]; rfl)
   obtain ⟨Nr, hNr⟩ : ∃ Nr : Nat, Nr = (r.hi - r.lo + 1).toNat := ⟨_, rfl⟩
   rw [← hNr] at HTK
   have HFT := hid (fun W' => (callsIn_wide (n := n + 3)).2 (fromTo_c r.lo r.hi Nr (by omega) (by omega) (by omega) W'))
   have hNr' : Nr ≤ 51 := by omega
   have k0 : (0 : Int) ≤ k := by omega
   have kN : (k : Int) < N := by omega
   have HOW := hid hown
   have HRW := hid hrow
   clear hx hd hc hNr hown hrow
   gi_wp2_with (first | (((try refine ⟨trivial, ?_⟩); (try refine ⟨trivial, hdd _, ?_⟩); (try refine ⟨hdd _, ?_⟩); gi_at_call 116; with_reducible refine (HFT.out _).mono ?_; rintro e w2 ⟨⟨B2, d2, rfl, hrow2⟩, hb2⟩; have hE2 : Ev wr w2 := Ev.trans (Ev.alloc (Ev.refl _) _) hb2; have HRO := hid hrow2; clear hrow2; have hs2 := hE2.size)) | (gi_at_builtin; refine wpListIn_append_own _ rfl (.tmp 15) (.tmp 21) 165 rfl w1.heap.size 23 i0 _ 1 24 Try.underlying165 hi0 hz0 hz1 hz2 rfl (by decide) _ k (vs.flatMap hdc) rfl ((HOW.out.ev hE2).alloc _) ⟨w2.heap.size, 0, none⟩ 1 1 [.slice B2 Nr d2] rfl rfl (news_in (alloc1 w2 _).1) (by simp [Value.oneCell']) (by unfold maxLen; omega) (by omega) (by simp; omega) ?_; intro v' w3 hown' hgrow _; obtain ⟨V3, cc3, rfl⟩ := own_form hown'; have HO3 := hid hown'; have HRX := RowsB.snoc (((HRW.out.ev hE2).ev (Ev.alloc (Ev.refl _) _)).grown ((HOW.out.ev hE2).alloc _) hgrow) (v := (B2, Nr, d2)) ((own_base (HRO.out.ev (Ev.alloc (Ev.refl _) _)) (by simp; omega)).kept hgrow (own_ne ((HOW.out.ev hE2).alloc _) (own_base (HRO.out.ev (Ev.alloc (Ev.refl _) (.cells #[.slice B2 Nr d2] 23))) (by simp; omega)) (by decide))) (show Nr ≤ 1000 by omega); have HR3 := hid (by rw [← HTK.out] at HRX; exact HRX); clear HRX; have HE3 := hid (Ev.grown ((hB.trans hE2).alloc (.cells #[.slice B2 Nr d2] 23)) hgrow (fun q e => by exact (HOW.out.lt q e).1) : Ev w1 w3); clear hown'))
   exact ⟨⟨k + 1, V3, cc3, vs ++ [(B2, Nr, d2)], rfl, by go_num, by omega, HE3.out, by rw [List.flatMap_append]; exact HO3.out, HR3.out⟩, by simp [intOf]; omega⟩
  ·
   obtain rfl : k = N := by omega
   rw [List.take_of_length_le (by rw [HPL.out]; exact Nat.le_refl _)] at hrow
   have HOW := hid hown
   have HRW := hid hrow
   have HEW := hid (hEW1.trans hB)
   have hVN := (sl_own (enc := hdc) (by decide) (hdc_len vs) (by omega) hown).cap
   obtain ⟨y0, y1, y2, y3, y4, y5, y6, y7, y8⟩ := cells9 (HEW.out.heap HFW.out)
   clear hown hrow
   gi_wp2_with ((try refine ⟨trivial, ?_⟩); (try refine ⟨trivial, hdd _, ?_⟩); (try refine ⟨hdd _, ?_⟩); gi_at_call 117; with_reducible refine ((callsIn_wide (n := n + 3)).2 (choices_c V k ch _)).mono ?_; rintro e w5 ⟨rfl, hE5, hq5⟩)
   obtain ⟨wb, hwb⟩ : ∃ wb, wb = wr.heap.size := ⟨_, rfl⟩
   have hal := alloc1 wr (.cells #[.int .i64 weeks] 3)
   have hEk : Ev wr (wr.alloc (.cells #[.int .i64 weeks] 3)) := Ev.alloc (Ev.refl _) _
   have hE15 : Ev w1 w5 := hB.trans (hEk.trans hE5)
   have hEW5 : Ev W w5 := hEW1.trans hE15
   have HWB5 := hid (hE5.heap hal.1)
   have HYB5 := hid (hE15.heap HY1.out)
   have hpp : (wr.alloc (.cells #[.int .i64 weeks] 3)).heap.size = wr.heap.size + 1 := hal.2
   rw [hpp] at hq5
   have hH5 := (HOW.out.ev hEk).ev hE5
   have hR5 := (HRW.out.ev hEk).ev hE5
   have hPR := hR5.pr (by omega) hH5
   have hq5l := heap_lt hq5
   have h51 := hE15.size
   have hwbl : w1.heap.size ≤ wr.heap.size := hBs
   clear hal hH5 hR5 y0 y1 y2 y3 y4 y5 y6 y7 y8
   refine rangeX (F := Fence.wide) (n := n + 4) rfl (by omega) (gf := 122) (lb := #[.pointer (some ⟨wr.heap.size + 1, 0, none⟩)]) rfl trivial (fun args w => Try.call122 args w)
    (choices_seq Fence.wide rfl trivial trivial rfl (n + 3) (wr.heap.size + 1) k ch V vs parts (by omega) hVN (fun j => w1.heap.size ≤ j ∧ j < w5.heap.size) ⟨by omega, hq5l⟩ w5 (fun j hj => hj.2) hq5 hPR) (Below.refl _ _) (fun j hj => hj.2) (fun _ => rfl) (fun A' B' x X Y h hk => incH_keep k A' B' x X Y h hk)
    (fun B pre X => J B (pre.map (M.cutAt weeks)) X ∧ Hid (X.heap[W.heap.size]? = some (.cells #[.func (.yield l) #[] #[]] 104 (0, 0))) ∧ Hid (X.heap[wr.heap.size]? = some (.cells #[.int .i64 weeks] 3 (0, 0))))
    (fun B c pre X => c = .ret ∧ Jx B (pre.map (M.cutAt weeks)) X)
    (fun B x a' X => a' = { tmps := #[.func (.yield l) #[] #[], .pointer (some ⟨fp, 0, none⟩), .pointer (some ⟨W.heap.size, 0, none⟩), .slice V k ch, undef, u5, .pointer (some ⟨wr.heap.size, 0, none⟩), .slice (some ⟨w5.heap.size + 2 + 1, 0, none⟩) k k, .agg #[.int .i64 f.last, .slice Ag ng cg, .slice Aw nw cw, .slice Ab nb cb, .slice Ac nc cc, .int .i64 f.ripe, .int .i64 f.late, .int .i64 f.trod, .slice Al nl cl], .slice B0 k d0, .int .i64 k, .int .i64 k, .bool false, u13, u14, u15, u16, u17, u18, u19, u20, u21, u22, u23, .pointer (some ⟨fp, 0, none⟩), .int .i64 f.last, .int .i64 weeks, .slice V k ch, .func (.func 122) #[] #[.pointer (some ⟨wr.heap.size + 1, 0, none⟩)], .slice (some ⟨w5.heap.size + 2 + 1, 0, none⟩) k k, undef, undef, undef, undef, undef, undef, undef, undef, undef, undef, undef, undef], defers := [] }) ?hI ?hIx (fun a' B s x y hB h hb => h) ?h0 ?assign ?body ?done ?stop
   case assign =>
    intro l' B pre x X K hB hBX hI _ hK
    unfold incE
    gi_wp2
    exact hK _ _ (Ev.refl _) rfl
   case hI =>
    rintro B s X Y hB ⟨h1, h2, h3⟩ hb
    exact ⟨HJ.out B _ X Y (by omega) h1 (hb.wider (by omega)), hid ((hb.block _ (heap_lt h2.out) (by omega)).trans h2.out), hid ((hb.block _ (heap_lt h3.out) (by omega)).trans h3.out)⟩
   case hIx =>
    rintro c B s X Y hB ⟨h1, h2⟩ hb
    exact ⟨h1, HJX.out B _ X Y (by omega) h2 (hb.wider (by omega))⟩
   case h0 =>
    intro X hX
    exact ⟨H0.out X (hEW5.trans hX), hid (hX.heap HYB5.out), hid (hX.heap HWB5.out)⟩
   case body =>
    rintro l' B pre x a' X hB hBX ⟨hJ, hYX, hWX⟩ rfl hh hpre
    have hxl := M.choices_len parts x (hpre.subset (by simp))
    have hlY := heap_lt hYX.out
    have hlW := heap_lt hWX.out
    have hxlN : x.length = k := by rw [hxl, HPL.out]
    have hsx := hh.2.keep (Below.refl _ X) hBX
    have w1k : weeks ≤ k := by have := HN2.out; omega
    have hk2 : k - weeks = weeks := by have := HN2.out; omega
    have hsa := hsx.take w1k
    have hsb := hsx.drop w1k
    rw [Nat.mul_one, Nat.zero_add, hk2] at hsb
    have hcl1 := fun W' (hE : Ev X W') => CallsIn.inRound l' ((callsIn_wide (n := n + 1)).2 (cloneI_c (some ⟨w5.heap.size + 2 + 1, 0, none⟩) weeks k (x.take weeks) (by omega) W' (hsa.ev hE)))
    have hcl2 := fun W' (hE : Ev X W') => CallsIn.inRound l' ((callsIn_wide (n := n + 1)).2 (cloneI_c (some ⟨w5.heap.size + 2 + 1, weeks, none⟩) weeks weeks (x.drop weeks) (by omega) W' (hsb.ev hE)))
    have g1 := fun wx => (slice_h (some ⟨w5.heap.size + 2 + 1, 0, none⟩) k k weeks w1k wx).1
    have g2 := fun wx => (slice_h (some ⟨w5.heap.size + 2 + 1, 0, none⟩) k k weeks w1k wx).2
    have g3 := fun wx => (slice_l (w5.heap.size + 2 + 1) 0 k k weeks w1k (by have := HN2.out; omega) wx).1
    have g4 := fun wx => (slice_l (w5.heap.size + 2 + 1) 0 k k weeks w1k (by have := HN2.out; omega) wx).2
    rw [Nat.zero_add, hk2] at g3 g4
    have HC1 := hid hcl1
    have HC2 := hid hcl2
    have HSX := hid hsx
    have HHX := hid hh
    have HPX := hid hpre
    have HJX' := hid hJ
    have HXN := hid hxlN
    have c1 := cell_in hYX.out 0
    have c2 := cell_in hWX.out 0
    simp only [List.getElem?_toArray, List.getElem?_cons_zero] at c1 c2
    have HSE : Hid (∀ w', Ev X w' → (∀ o, w'.cell? ⟨W.heap.size, o, none⟩ = X.cell? ⟨W.heap.size, o, none⟩) ∧ (∀ o, w'.cell? ⟨wr.heap.size, o, none⟩ = X.cell? ⟨wr.heap.size, o, none⟩)) := hid (fun w' h => ⟨fun o => h.cells.1 _ o hlY, fun o => h.cells.1 _ o hlW⟩)
    clear hcl1 hcl2 hsx hh hpre hJ hxlN hxl hsa hsb hk2
    gi_wp2
    refine wp_region_R (l := l') (S := fun w' => (∀ o, w'.cell? ⟨W.heap.size, o, none⟩ = X.cell? ⟨W.heap.size, o, none⟩) ∧ (∀ o, w'.cell? ⟨wr.heap.size, o, none⟩ = X.cell? ⟨wr.heap.size, o, none⟩)) (by kernel_rfl) rfl ⟨fun o => rfl, fun o => rfl⟩ (fun hHeld => ?_)
    refine wpAnyR_take (i := 0) (v := ?_) rfl (by kernel_rfl) (by kernel_rfl) (by kernel_rfl) (fun _ _ _ h => h) (Or.inl ⟨by rfl, ?hy⟩) (by assumption) ?_
    case hy => (intro w hSw; (try dsimp only at hSw); go_simp; with_reducible rfl)
    (try simp only [Act.put, List.setIfInBounds_toArray, List.set_cons_zero, List.set_cons_succ])
    refine wpAnyR_take (i := 1) (v := ?_) rfl (by kernel_rfl) (by kernel_rfl) (by kernel_rfl) (fun _ _ _ h => h) (Or.inl ⟨by rfl, ?hy⟩) (by assumption) ?_
    case hy => (intro w hSw; (try dsimp only at hSw); go_simp; with_reducible rfl)
    (try simp only [Act.put, List.setIfInBounds_toArray, List.set_cons_zero, List.set_cons_succ])
    refine wpAnyR_take (i := 2) (v := ?_) rfl (by kernel_rfl) (by kernel_rfl) (by kernel_rfl) (fun _ _ _ h => h) (Or.inl ⟨by rfl, ?hy⟩) (by assumption) ?_
    case hy => (intro w hSw; (try dsimp only at hSw); go_simp; with_reducible rfl)
    (try simp only [Act.put, List.setIfInBounds_toArray, List.set_cons_zero, List.set_cons_succ])
    refine wpAnyR_take (i := 3) (v := ?_) rfl (by kernel_rfl) (by kernel_rfl) (by kernel_rfl) (fun _ _ _ h => h) (Or.inl ⟨by rfl, ?hy⟩) (by assumption) ?_
    case hy => (intro w hSw; (try dsimp only at hSw); go_simp; with_reducible rfl)
    (try simp only [Act.put, List.setIfInBounds_toArray, List.set_cons_zero, List.set_cons_succ])
    refine wpAnyR_take (i := 5) (v := ?_) rfl (by kernel_rfl) (by kernel_rfl) (by kernel_rfl) (fun _ _ _ h => h) (Or.inl ⟨by rfl, ?hy⟩) (by assumption) ?_
    case hy => (intro w hSw; (try dsimp only at hSw); go_simp; with_reducible rfl)
    (try simp only [Act.put, List.setIfInBounds_toArray, List.set_cons_zero, List.set_cons_succ])
    refine wpAnyR_take (i := 6) (v := ?_) rfl (by kernel_rfl) (by kernel_rfl) (by kernel_rfl) (fun _ _ _ h => h) (Or.inl ⟨by rfl, ?hy⟩) (by assumption) ?_
    case hy => (intro w hSw; (try dsimp only at hSw); go_simp; with_reducible rfl)
    (try simp only [Act.put, List.setIfInBounds_toArray, List.set_cons_zero, List.set_cons_succ])
    refine wpAnyR_take (i := 7) (v := ?_) rfl (by kernel_rfl) (by kernel_rfl) (by kernel_rfl) (fun _ _ _ h => h) (Or.inl ⟨by rfl, ?hy⟩) (by assumption) ?_
    case hy => (intro w hSw; (try dsimp only at hSw); go_simp; with_reducible rfl)
    (try simp only [Act.put, List.setIfInBounds_toArray, List.set_cons_zero, List.set_cons_succ])
    refine wpAnyR_one (i := 4) rfl (by kernel_rfl) (by rfl) (fun K hK => ?_)
    go_simp
    refine CallsIn.mono (HC1.out _ (Ev.drew (Ev.refl X))) ?_
    rintro e X1 ⟨⟨B1, d1, rfl, ho1⟩, hE1⟩
    have hX1 : Ev X X1 := (Ev.drew (Ev.refl X)).trans hE1
    have HO1 := hid ho1
    clear ho1
    refine hK.out _ _ (HSE.out _ hX1) (fun hHeld => ?_)
    clear hK K
    (try simp only [Act.put, List.setIfInBounds_toArray, List.set_cons_zero, List.set_cons_succ])
    refine wpAnyR_one (i := 8) rfl (by kernel_rfl) (by rfl) (fun K hK => ?_)
    go_simp
    refine CallsIn.mono (HC2.out _ hX1) ?_
    rintro e X2 ⟨⟨B2, d2, rfl, ho2⟩, hE2⟩
    have hX2 : Ev X X2 := hX1.trans hE2
    have hs1 := own_base (b' := B) (HO1.out.ev hE2) (show B ≤ X.drew.heap.size from hBX)
    have hs2 := own_base (b' := B) ho2 (Nat.le_trans hBX hX1.size)
    clear ho2
    refine hK.out _ _ (HSE.out _ hX2) (fun hHeld => ?_)
    clear hK K
    (try simp only [Act.put, List.setIfInBounds_toArray, List.set_cons_zero, List.set_cons_succ])
    refine wpAnyR_take (i := 9) (v := ?_) rfl (by kernel_rfl) (by kernel_rfl) (by kernel_rfl) (fun _ _ _ h => h) (Or.inl ⟨by rfl, ?hy⟩) (by assumption) ?_
    case hy => (intro w hSw; (try dsimp only at hSw); go_simp; with_reducible rfl)
    (try simp only [Act.put, List.setIfInBounds_toArray, List.set_cons_zero, List.set_cons_succ])
    have hXs2 := hX2.size
    have hpre2 : pre.map (M.cutAt weeks) ++ [M.cutAt weeks x] <+: M.allTruths f := by
     rw [HAT.out]
     have := List.IsPrefix.map (M.cutAt weeks) HPX.out
     simpa using this
    obtain ⟨fn, tm, asg, bd, hyy, hRR⟩ := yield_any rfl (n + 1) (HY.out B (pre.map (M.cutAt weeks)) (M.cutAt weeks x) #[.agg #[.slice B1 weeks d1, .slice B2 weeks d2]] X2 (by omega) (by omega) (HJ.out B _ X X2 (by omega) HJX'.out (Bar.ev hX2)) ⟨B1, d1, B2, d2, weeks, weeks, rfl, hs1, hs2, by omega, by omega⟩ hpre2)
    have HRR := hid hRR
    have HS1 := hid hs1
    have HS2 := hid hs2
    have HPR2 := hid hpre2
    clear hRR hs1 hs2 hpre2
    refine wpAnyR_one (i := 10) rfl (by kernel_rfl) (by rfl) (fun K hK => ?_)
    go_simp
    refine RoundIn.mono (roundIn_in l' HRR.out) ?_
    rintro e X3 (⟨rfl, hJ3, hK3⟩ | ⟨rfl, hx3, hK3⟩)
    ·
     have hC3 : ∀ j, W.heap.size ≤ j → j < B → j < X.heap.size → X3.heap[j]? = X.heap[j]? := fun j h1 h2 h3 => (hK3.block j (by omega) (.inr ⟨h1, h2⟩)).trans (hX2.block j h3)
     refine hK.out _ _ (⟨fun o => World.cell?_of_block (w := X) (hC3 W.heap.size (Nat.le_refl _) (by omega) hlY), fun o => World.cell?_of_block (w := X) (hC3 wr.heap.size (by omega) (by omega) hlW)⟩) (fun hHeld => ?_)
     clear hK K
     (try simp only [Act.put, List.setIfInBounds_toArray, List.set_cons_zero, List.set_cons_succ])
     refine wpAnyR_take (i := 11) (v := ?_) rfl (by kernel_rfl) (by kernel_rfl) (by kernel_rfl) (fun _ _ _ h => h) (Or.inl ⟨by rfl, ?hy⟩) (by assumption) ?_
     case hy => (intro w hSw; (try dsimp only at hSw); go_simp; with_reducible rfl)
     (try simp only [Act.put, List.setIfInBounds_toArray, List.set_cons_zero, List.set_cons_succ])
     refine wpAnyR_done (by kernel_rfl) ?_ _
     gi_wp2
     refine ⟨⟨?_, fun j hj hor => ?_⟩, ?_, ?_, ?_⟩
     ·
      have := hK3.size; omega
     ·
      exact hC3 j (by omega) (by omega) hj
     ·
      rw [List.map_append]; exact hJ3
     ·
      exact hid ((hC3 W.heap.size (Nat.le_refl _) (by omega) hlY).trans hYX.out)
     ·
      exact hid ((hC3 wr.heap.size (by omega) (by omega) hlW).trans hWX.out)
    ·
     have hC3 : ∀ j, W.heap.size ≤ j → j < B → j < X.heap.size → X3.heap[j]? = X.heap[j]? := fun j h1 h2 h3 => (hK3.block j (by omega) (.inr ⟨h1, h2⟩)).trans (hX2.block j h3)
     refine hK.out _ _ (⟨fun o => World.cell?_of_block (w := X) (hC3 W.heap.size (Nat.le_refl _) (by omega) hlY), fun o => World.cell?_of_block (w := X) (hC3 wr.heap.size (by omega) (by omega) hlW)⟩) (fun hHeld => ?_)
     clear hK K
     (try simp only [Act.put, List.setIfInBounds_toArray, List.set_cons_zero, List.set_cons_succ])
     refine wpAnyR_take (i := 11) (v := ?_) rfl (by kernel_rfl) (by kernel_rfl) (by kernel_rfl) (fun _ _ _ h => h) (Or.inl ⟨by rfl, ?hy⟩) (by assumption) ?_
     case hy => (intro w hSw; (try dsimp only at hSw); go_simp; with_reducible rfl)
     (try simp only [Act.put, List.setIfInBounds_toArray, List.set_cons_zero, List.set_cons_succ])
     refine wpAnyR_done (by kernel_rfl) ?_ _
     gi_wp2
     refine ⟨⟨?_, fun j hj hor => ?_⟩, rfl, ?_⟩
     ·
      have := hK3.size; omega
     ·
      rcases hor with hf | hor
      ·
       exact hf.elim
      ·
       exact hC3 j (by omega) (by omega) hj
     ·
      rw [List.map_append]; exact hx3
   case done =>
    rintro B X hB ⟨hJ, hYX, hWX⟩ hD
    gi_wp2
    show LeavesInM Fence.wide (n + 4) Try.prog Try.f115 _ _ (marks [w5.heap.size]) .returning X
    refine leaves_marks (A := W.heap.size) [w5.heap.size] X (by simp) (fun E hE => ?_) (fun w' hb' hk' => ?_)
    ·
     rw [show E = w5.heap.size by simpa using hE]; exact ⟨by omega, hD⟩
    ·
     have hbar : Bar W.heap.size B X w' := ⟨hb'.os, hb'.tape, hb'.output, hb'.size, fun j hj hn => hk' j (fun hm => hn (by rw [show j = w5.heap.size by simpa using hm]; omega))⟩
     exact ⟨_, by simp [results, Try.results115, go_sem]; rfl, ⟨⟨_, rfl⟩, B, by omega, .inl (by rw [HAT.out]; exact HJ.out B _ X w' (by omega) hJ hbar)⟩⟩
   case stop =>
    rintro B ch' pre X hB hpre ⟨rfl, hx⟩ hD
    gi_wp2
    show LeavesInM Fence.wide (n + 4) Try.prog Try.f115 _ _ (marks [w5.heap.size]) .returning X
    refine leaves_marks (A := W.heap.size) [w5.heap.size] X (by simp) (fun E hE => ?_) (fun w' hb' hk' => ?_)
    ·
     rw [show E = w5.heap.size by simpa using hE]; exact ⟨by omega, hD⟩
    ·
     have hbar : Bar W.heap.size B X w' := ⟨hb'.os, hb'.tape, hb'.output, hb'.size, fun j hj hn => hk' j (fun hm => hn (by rw [show j = w5.heap.size by simpa using hm]; omega))⟩
     exact ⟨_, by simp [results, Try.results115, go_sem]; rfl, ⟨⟨_, rfl⟩, B, by omega, .inr ⟨_, by rw [HAT.out]; exact List.IsPrefix.map (M.cutAt weeks) hpre, HJX.out B _ X w' (by omega) hx hbar⟩⟩⟩

end Go.Proofs.Ytffbkbcjddigdaa
