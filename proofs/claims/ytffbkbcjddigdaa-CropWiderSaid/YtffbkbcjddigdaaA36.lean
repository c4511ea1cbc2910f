import Derived.Test.YtffbkbcjddigdaaA33
set_option linter.unusedSimpArgs false
set_option linter.unusedVariables false
namespace Go.Proofs.Ytffbkbcjddigdaa
open Go.RowKit Go.Shelf

/-- What slices.Compare says. -/
def M.cmpL : List Int → List Int → Int
 | [], [] => 0
 | [], _ :: _ => -1
 | _ :: _, [] => 1
 | x :: xs, y :: ys => if x < y then -1 else if y < x then 1 else M.cmpL xs ys

set_option maxRecDepth 100000 in
set_option maxHeartbeats 2000000 in
theorem compareS_c (A1 A2 : Option Addr) (n1 c1 n2 c2 : Nat) (xs ys : List Int) (h1 : n1 ≤ 1000) (h2 : n2 ≤ 1000) (w : World) (ha : Sl ics 1 w w.heap.size A1 n1 c1 xs) (hb : Sl ics 1 w w.heap.size A2 n2 c2 ys) :
  Calls Try.prog 103 #[.slice A1 n1 c1, .slice A2 n2 c2] w fun e w' => e = .returned (.int .i64 (M.cmpL xs ys)) ∧ w' = w := by
 have HXL := hid ha.len
 have HYL := hid hb.len
 have hcap1 := ha.cap
 have hcap2 := hb.cap
 go_enter Try.func103, Try.ntmps103
 go_wp2
 go_loopw [11] (fun i wr => ∃ k : Nat, i = .int .i64 k ∧ k ≤ n1 ∧ k ≤ n2 ∧ wr = w ∧ Hid (M.cmpL (xs.drop k) (ys.drop k) = M.cmpL xs ys)) (fun i _ => n1 - (intOf i).toNat)
 case atStart => exact ⟨0, rfl, by omega, by omega, rfl, hid (by simp)⟩
 case round =>
  obtain ⟨k, rfl, hk, hk2, rfl, hF⟩ := hrel
  by_cases hlt : k < n1
  ·
   obtain ⟨b1, o1, x, rfl, hb1, hx, hd, e0⟩ := ha.int (Below.refl _ _) hlt
   by_cases hlt2 : k < n2
   ·
    obtain ⟨b2, o2, y, rfl, hb2, hy, hd2, e1⟩ := hb.int (Below.refl _ _) hlt2
    have HC := hid (compare_c x y)
    have HF2 := hid (show M.cmpL xs ys = (if x < y then -1 else if y < x then 1 else M.cmpL (xs.drop (k + 1)) (ys.drop (k + 1))) by rw [← hF.out, hd, hd2, M.cmpL])
    clear hx hd hy hd2 hF
    by_cases g1 : x < y
    ·
     have hm : M.cmp x y = -1 := by unfold M.cmp; rw [if_pos g1]
     have HF3 := hid (HF2.out.trans (if_pos g1))
     rw [hm] at HC
     clear hm HF2
     go_wp2_with (go_at_call 112; with_reducible refine (HC.out _).mono ?_; rintro e w1 ⟨rfl, h1⟩; cases h1)
     go_ret
     exact ⟨by rw [HF3.out]; rfl, by trivial⟩
    ·
     by_cases g2 : y < x
     ·
      have hm : M.cmp x y = 1 := by unfold M.cmp; rw [if_neg g1, if_pos g2]
      have HF3 := hid ((HF2.out.trans (if_neg g1)).trans (if_pos g2))
      rw [hm] at HC
      clear hm HF2
      go_wp2_with (go_at_call 112; with_reducible refine (HC.out _).mono ?_; rintro e w1 ⟨rfl, h1⟩; cases h1)
      go_ret
      exact ⟨by rw [HF3.out]; rfl, by trivial⟩
     ·
      have hm : M.cmp x y = 0 := by unfold M.cmp; rw [if_neg g1, if_neg g2]
      have HF3 := hid ((HF2.out.trans (if_neg g1)).trans (if_neg g2))
      rw [hm] at HC
      clear hm HF2
      go_wp2_with (go_at_call 112; with_reducible refine (HC.out _).mono ?_; rintro e w1 ⟨rfl, h1⟩; cases h1)
      exact ⟨⟨k + 1, by go_num, by omega, by omega, by trivial, hid HF3.out.symm⟩, by simp [intOf]; omega⟩
   ·
    obtain rfl : k = n2 := by omega
    have HF3 := hid (show M.cmpL xs ys = 1 by rw [← hF.out, hd, show ys.drop k = [] from List.drop_eq_nil_of_le (by rw [HYL.out]; exact Nat.le_refl _), M.cmpL])
    clear hx hd hF
    go_wp2
    go_ret
    exact ⟨by rw [HF3.out]; rfl, by trivial⟩
  ·
   obtain rfl : k = n1 := by omega
   by_cases hlt2 : k < n2
   ·
    obtain ⟨b2, o2, y, rfl, hb2, hy, hd2, e1⟩ := hb.int (Below.refl _ _) hlt2
    have HF3 := hid (show M.cmpL xs ys = -1 by rw [← hF.out, hd2, show xs.drop k = [] from List.drop_eq_nil_of_le (by rw [HXL.out]; exact Nat.le_refl _), M.cmpL])
    clear hy hd2 hF
    go_wp2
    go_ret
    exact ⟨by rw [HF3.out]; rfl, by trivial⟩
   ·
    obtain rfl : k = n2 := by omega
    have HF3 := hid (show M.cmpL xs ys = 0 by rw [← hF.out, show xs.drop k = [] from List.drop_eq_nil_of_le (by rw [HXL.out]; exact Nat.le_refl _), show ys.drop k = [] from List.drop_eq_nil_of_le (by rw [HYL.out]; exact Nat.le_refl _), M.cmpL])
    clear hF
    go_wp2
    go_ret
    exact ⟨by rw [HF3.out]; rfl, by trivial⟩

/-- What a plan is sure to be worth. -/
def M.sure (f : M.Cf) (ts : List M.Tr) (plan : List Int) : Int := (M.span (ts.map fun t => M.total f t plan)).lo
/-- One plan more is looked at. -/
def M.bestS (f : M.Cf) (ts : List M.Tr) (s : List Int × Int) (x : List Int) : List Int × Int :=
 if s.2 < M.sure f ts x ∨ (M.sure f ts x = s.2 ∧ M.cmpL x s.1 < 0) then (x, M.sure f ts x) else s
def M.bestL (f : M.Cf) (ts : List M.Tr) (s : List Int × Int) (L : Nat) : List Int × Int := (M.incr (f.last + 1).toNat L 0).foldl (M.bestS f ts) s
/-- The best plan, and what it is sure to be worth. -/
def M.best (f : M.Cf) (ts : List M.Tr) : List Int × Int := (List.range (f.base.length + 1)).foldl (M.bestL f ts) ([], 0)

theorem M.rises_rise {sz : Nat} : ∀ {frm : Int} {x : List Int}, M.Rise sz frm x → M.rises x = true
 | _, [], _ => rfl
 | _, [_], _ => rfl
 | _, a :: b :: r, h => by
  obtain ⟨_, _, h3, h4, h5⟩ := h
  have := M.rises_rise (x := b :: r) (frm := a + 1) ⟨h3, h4, h5⟩
  simp only [M.rises, Bool.and_eq_true, decide_eq_true_eq]
  exact ⟨by omega, this⟩
theorem M.rise_bd {sz : Nat} : ∀ {frm : Int} {x : List Int}, M.Rise sz frm x → ∀ a ∈ x, frm ≤ a ∧ a < sz
 | _, [], _, a, ha => by simp at ha
 | frm, b :: r, h, a, ha => by
  obtain ⟨h1, h2, h3⟩ := h
  rcases List.mem_cons.1 ha with rfl | ha
  ·
   exact ⟨h1, h2⟩
  ·
   have := M.rise_bd h3 a ha
   omega
theorem M.incr_plan {f : M.Cf} (h9 : 0 ≤ f.last ∧ f.last ≤ 9) {L : Nat} (hL : L ≤ f.base.length) {x : List Int} (h : x ∈ M.incr (f.last + 1).toNat L 0) : M.isPlan f x = true := by
 obtain ⟨h1, h2⟩ := (M.mem_incr _ _ _ _).1 h
 have h3 := M.rises_rise h2
 have h4 := M.rise_bd h2
 unfold M.isPlan M.hasWeek
 simp only [Bool.and_eq_true, decide_eq_true_eq, List.all_eq_true]
 first
  | exact ⟨by omega, h3, fun a ha => by have := h4 a ha; omega⟩
  | exact ⟨by omega, by simpa using h3, fun a ha => by have := h4 a (by simpa using ha); constructor <;> omega⟩

/-- A plan whose cells lie from c on, and not between J and B. -/
def Pl (c J B : Nat) (W : World) (v : Value) (x : List Int) : Prop := ∃ A n d, v = .slice A n d ∧ n ≤ 10 ∧ Sl ics 1 W W.heap.size A n d x ∧ (0 < n → ∀ a, A = some a → c ≤ a.block ∧ (a.block < J ∨ B ≤ a.block))
theorem Sl.same {α : Type} {enc : α → List Value} {sz : Nat} {x y : World} {A : Option Addr} {n d : Nat} {xs : List α} (h : Sl enc sz x x.heap.size A n d xs) (hs : x.heap.size ≤ y.heap.size) (hk : 0 < n → ∀ a, A = some a → a.block < x.heap.size → y.heap[a.block]? = x.heap[a.block]?) : Sl enc sz y y.heap.size A n d xs := by
 refine ⟨h.len, h.cap, h.small, fun hn => ?_⟩
 obtain ⟨b, off, hA, hb, hc⟩ := h.cells hn
 have hb' : y.heap[b]? = x.heap[b]? := hk hn ⟨b, off, none⟩ hA hb
 exact ⟨b, off, hA, by omega, fun k z hz j v hv => (World.cell?_of_block (w := x) (a := ⟨b, off + k * sz + j, none⟩) hb').trans (hc k z hz j v hv)⟩
theorem Pl.bar {c J B : Nat} {x y : World} {v : Value} {l : List Int} (h : Pl c J B x v l) (hb : Bar J B x y) : Pl c J B y v l := by
 obtain ⟨A, n, d, rfl, hn, hs, ha⟩ := h
 exact ⟨A, n, d, rfl, hn, hs.same hb.size (fun h0 a e hl => hb.block a.block hl (by have := (ha h0 a e).2; omega)), ha⟩
theorem Pl.mo {c J B mb : Nat} {x y : World} {v : Value} {l : List Int} (h : Pl c J B x v l) (hb : Mo mb x y) (hm : mb < c) : Pl c J B y v l := by
 obtain ⟨A, n, d, rfl, hn, hs, ha⟩ := h
 exact ⟨A, n, d, rfl, hn, hs.same hb.size (fun h0 a e hl => hb.block a.block hl (fun q => by have := Option.some.inj q; have := (ha h0 a e).1; omega)), ha⟩
/-- The range begins, and has ended. -/
theorem Pl.begin {c J B : Nat} {x : World} {v : Value} {l : List Int} (h : Pl c 0 0 x v l) (hJ : x.heap.size ≤ J) : Pl c J B x v l := by
 obtain ⟨A, n, d, rfl, hn, hs, ha⟩ := h
 refine ⟨A, n, d, rfl, hn, hs, fun h0 a e => ⟨(ha h0 a e).1, .inl ?_⟩⟩
 obtain ⟨b, off, hA, hb, _⟩ := hs.cells h0
 rw [e] at hA
 cases hA
 show b < J
 omega
theorem Pl.ended {c J B : Nat} {x : World} {v : Value} {l : List Int} (h : Pl c J B x v l) : Pl c 0 0 x v l := by
 obtain ⟨A, n, d, rfl, hn, hs, ha⟩ := h
 exact ⟨A, n, d, rfl, hn, hs, fun h0 a e => ⟨(ha h0 a e).1, .inr (Nat.zero_le _)⟩⟩
/-- A plan of one's own, stored. -/
theorem Pl.own {c J B b0 : Nat} {x y : World} {A : Option Addr} {n d : Nat} {l : List Int} (h : x.ownsRow b0 3 1 (.slice A n d) n (l.flatMap ics)) (hn : n ≤ 10) (hc : c ≤ b0) (hB : B ≤ b0) (hs : x.heap.size ≤ y.heap.size) (hk : ∀ j, c ≤ j → y.heap[j]? = x.heap[j]?) : Pl c J B y (.slice A n d) l := by
 have hsl := sl_own (enc := ics) (by decide) (ics_len _) (by omega) h
 have hb : ∀ a, A = some a → b0 ≤ a.block := fun a e => (h.lt a.block (by rw [e]; rfl)).1
 exact ⟨A, n, d, rfl, hn, hsl.same hs (fun _ a e _ => hk _ (by have := hb a e; omega)), fun _ a e => ⟨by have := hb a e; omega, .inr (by have := hb a e; omega)⟩⟩
theorem Mo.bar {mb J B : Nat} {w x y : World} (h : Mo mb w x) (hb : Bar J B x y) (hJ : w.heap.size ≤ J) : Mo mb w y :=
 ⟨hb.os.trans h.os, hb.tape.trans h.tape, hb.output.trans h.output, Nat.le_trans h.size hb.size, fun j hj hn => (hb.block j (by have := h.size; omega) (by omega)).trans (h.block j hj hn)⟩
theorem def_ne {w : World} {b j D : Nat} {v : Value} {x : Option (List _)} (hb : w.cell? ⟨b, j, none⟩ = some v) (hD : w.heap[D]? = some (.deferred x)) : b ≠ D := by
 rintro rfl
 simp [World.cell?, hD] at hb
theorem Mo.below {mb : Nat} {w x y : World} (h : Mo mb w x) (hb : Below w.heap.size x y) : Mo mb w y :=
 ⟨hb.os.trans h.os, hb.tape.trans h.tape, hb.output.trans h.output, Nat.le_trans h.size hb.size, fun j hj hn => (hb.block j hj).trans (h.block j hj hn)⟩
theorem spanL_c (A : Option Addr) (n d : Nat) (l : List Int) (w : World) (hn : 0 < n) (hs : Sl ics 1 w w.heap.size A n d l) :
  Calls Try.prog 65 #[.slice A n d] w fun e w' => e = .returned (.agg #[.int .i64 (M.span l).lo, .int .i64 (M.span l).hi]) ∧ Ev w w' := by
 have hl := hs.len
 match l, hl with
 | x :: xs, hl =>
  obtain rfl : n = xs.length + 1 := by rw [← hl]; rfl
  exact span_c A xs.length d x xs w hs
 | [], hl => simp at hl; omega

end Go.Proofs.Ytffbkbcjddigdaa

set_option linter.unusedSimpArgs false
set_option linter.unusedVariables false
namespace Go.Proofs.Ytffbkbcjddigdaa
open Go.RowKit Go.Shelf
attribute [local go_sem] Oper.semAt_some

set_option maxRecDepth 100000 in
theorem fieldLo (a b : Int) (W : World) : (Instr.field 57 (.agg #[.int .i64 a, .int .i64 b]) 0).run Try.prog W = .ok (.int .i64 a) W := by
 first
  | rfl
  | simp [Instr.field, run_underlying Try.underlying57, part, cellsIn, typeInfo, Result.andThen]
set_option maxRecDepth 100000 in
set_option maxHeartbeats 8000000 in
theorem best_in (f : M.Cf) (Ag Aw Ab Ac Al : Option Addr) (ng cg nw cw nb cb nc cc nl cl : Nat) (At As : Option Addr) (nt ct ns cs p mb : Nat) (ts : List M.Tr) (ss : List (List Int)) (h0 : M.check f = 0) (hne : 0 < nt) (hts : ∀ t ∈ ts, M.listed f t = true) (w : World) (hw : Wc w f Ag Aw Ab Ac Al ng cg nw cw nb cb nc cc nl cl At As nt ct ns cs p mb ts ss) :
  CallsIn Fence.wide 5 Try.prog 73 #[.pointer (some ⟨p, 0, none⟩)] w fun e w' => (∃ B d, e = .returned (.tuple #[.slice B (M.best f ts).1.length d, .int .i64 (M.best f ts).2]) ∧ Sl ics 1 w' w'.heap.size B (M.best f ts).1.length d (M.best f ts).1) ∧ Wc w' f Ag Aw Ab Ac Al ng cg nw cw nb cb nc cc nl cl At As nt ct ns cs p mb ts ss ∧ Mo mb w w' := by
 have hdd : ∀ k : Nat, (Fence.wide.depth.isSome = true → 1 ≤ k) := fun k h => by cases h
 obtain ⟨k0, k1, k2, k3, k4, k5, k6, k7, k8, k9, k10, k11⟩ := cells12 hw.hd
 obtain ⟨g0, hgl0, hm0⟩ := hw.mp
 have hpw := heap_lt hw.hd
 have hml := hm0.lt
 have hv := (M.check0 h0).2.2.2.1
 have hl9 : 0 ≤ f.last ∧ f.last ≤ 9 := ⟨(M.valid_parts hv).1, (M.check0 h0).1⟩
 obtain ⟨weeks, hwk⟩ : ∃ weeks : Nat, f.last + 1 = weeks := ⟨(f.last + 1).toNat, by omega⟩
 have HWK := hid hwk
 have hw10 : weeks ≤ 10 := by omega
 have hnb := hw.fd.b.len
 have hnb3 : nb ≤ 3 := by have := (M.check0 h0).2.1; omega
 have HWO := hid (fun (P : Option Addr) (pn pc : Nat) (plan : List Int) (hpl : M.isPlan f plan = true) W hW hp => worths_c f Ag Aw Ab Ac Al ng cg nw cw nb cb nc cc nl cl At As nt ct ns cs p mb P pn pc plan ts ss h0 hts hpl W hW hp)
 have HPL := hid (fun (L : Nat) (hL : L ≤ nb) (x : List Int) (hx : x ∈ M.incr weeks L 0) => M.incr_plan (f := f) hl9 (L := L) (by omega) (x := x) (by rw [hwk]; exact hx))
 have HBL := hid (fun (s : List Int × Int) (L : Nat) => show M.bestL f ts s L = (M.incr weeks L 0).foldl (M.bestS f ts) s by unfold M.bestL; rw [hwk]; rfl)
 have HBE := hid (show M.best f ts = (List.range (nb + 1)).foldl (M.bestL f ts) ([], 0) by unfold M.best; rw [hnb])
 have hE0 : Ev w (((w.alloc (.cells #[.pointer (some ⟨p, 0, none⟩)] 106)).alloc (.cells #[.slice none 0 0] 23)).alloc (.cells #[.int .i64 0] 3)) := Ev.alloc (Ev.alloc (Ev.alloc (Ev.refl _) _) _) _
 have k3' := (hE0.cells.1 p 3 hpw).trans k3
 have HAL := hid (alloc3 w (.cells #[.pointer (some ⟨p, 0, none⟩)] 106) (.cells #[.slice none 0 0] 23) (.cells #[.int .i64 0] 3))
 have s1 : IntKind.i64.wrap ((nb : Int) + 1) = nb + 1 := IntWalk.i64_in _ (by omega)
 have s2 : IntKind.i64.wrap (f.last + 1) = f.last + 1 := IntWalk.i64_in _ (by omega)
 have HWC := hid hw
 have HM0 := hid hm0
 have HG0 := hid hgl0
 have HT := hid hts
 clear k0 k1 k2 k3 k4 k5 k6 k7 k8 k9 k10 k11 hw hm0 hgl0 hwk h0 hts hv hnb
 refine callsIn_of_wp_marks Try.func73 rfl trivial ?_ rfl
 simp only [Try.ntmps73, List.size_toArray, List.length_cons, List.length_nil, Nat.reduceAdd, Nat.reduceSub, Array.replicate_succ, Array.replicate_zero, List.push_toArray, List.append_toArray, List.nil_append, List.cons_append]
 gi_wp2
 generalize hW0 : World.alloc (World.alloc (World.alloc w _) _) _ = W0 at hE0 HAL k3'
 have Q0 := hid HAL.out.1
 have Q1 := hid HAL.out.2.1
 have Q2 := hid HAL.out.2.2.1
 clear HAL hW0 k3'
 refine wpIn_loop (fun a W => ∃ (k : Nat) (Ds : List Nat) (v : Value) (u4 u5 u6 u15 u16 u17 u18 u19 u20 u21 u22 u23 u24 u25 u26 u27 u28 u29 u30 u31 u32 u33 u34 u35 u36 u37 u38 u39 u40 u41 u42 u43 u44 u45 u46 u47 u48 u49 u50 : Value), a = { tmps := #[.pointer (some ⟨p, 0, none⟩), .pointer (some ⟨w.heap.size, 0, none⟩), .pointer (some ⟨w.heap.size + 1, 0, none⟩), .pointer (some ⟨w.heap.size + 1 + 1, 0, none⟩), u4, u5, u6, .pointer (some ⟨p, 0, none⟩), .pointer (some ⟨p, 0, none⟩), .pointer (some ⟨p, 0, none⟩), .pointer (some ⟨p, 3, none⟩), .slice Ab nb cb, .int .i64 nb, .int .i64 ((nb : Int) + 1), .int .i64 k, u15, u16, u17, u18, u19, u20, u21, u22, u23, u24, u25, u26, u27, u28, u29, u30, u31, u32, u33, u34, u35, u36, u37, u38, u39, u40, u41, u42, u43, u44, u45, u46, u47, u48, u49, u50], defers := marks Ds } ∧ k ≤ nb + 1 ∧ Mo mb w W ∧ (∃ g', Loads f g' ∧ MapIs Try.prog 143 W mb g') ∧
   Hid (W.heap[w.heap.size]? = some (.cells #[.pointer (some ⟨p, 0, none⟩)] 106 (0, 0))) ∧ Hid (W.heap[w.heap.size + 1]? = some (.cells #[v] 23 (0, 0))) ∧ Hid (W.heap[w.heap.size + 1 + 1]? = some (.cells #[.int .i64 ((List.range k).foldl (M.bestL f ts) ([], 0)).2] 3 (0, 0))) ∧ Pl (w.heap.size + 1 + 1 + 1) 0 0 W v ((List.range k).foldl (M.bestL f ts) ([], 0)).1 ∧ w.heap.size + 1 + 1 + 1 ≤ W.heap.size ∧ Ds.Nodup ∧ Hid (∀ D ∈ Ds, w.heap.size + 1 + 1 + 1 ≤ D ∧ W.heap[D]? = some (.deferred (some []))))
  (fun a _ => nb + 1 - (intOf (a.tmps.getD 14 undef)).toNat) ?_ ?_
 ·
  exact ⟨0, [], .slice none 0 0, undef, undef, undef, undef, undef, undef, undef, undef, undef, undef, undef, undef, undef, undef, undef, undef, undef, undef, undef, undef, undef, undef, undef, undef, undef, undef, undef, undef, undef, undef, undef, undef, undef, undef, undef, undef, undef, undef, undef, rfl, by omega, Mo.ev hE0, ⟨g0, HG0.out, HM0.out.keep hE0 hml⟩, Q0, Q1, Q2, ⟨none, 0, 0, rfl, by omega, ⟨rfl, Nat.le_refl _, by omega, fun h => absurd h (by omega)⟩, fun h => absurd h (by omega)⟩, heap_lt Q2.out, List.nodup_nil, hid (by simp)⟩
 ·
  rintro a W ⟨k, Ds, v, u4, u5, u6, u15, u16, u17, u18, u19, u20, u21, u22, u23, u24, u25, u26, u27, u28, u29, u30, u31, u32, u33, u34, u35, u36, u37, u38, u39, u40, u41, u42, u43, u44, u45, u46, u47, u48, u49, u50, rfl, hk, hB, hmp, H0, H1, H2, hpl, hzs, hnd, HD⟩
  have hws := hB.size
  have hWW := HWC.out.mo hB hmp
  obtain ⟨k0, k1, k2, k3, k4, k5, k6, k7, k8, k9, k10, k11⟩ := cells12 hWW.hd
  have b0 := cell_in H0.out 0
  simp only [List.getElem?_toArray, List.getElem?_cons_zero] at b0
  by_cases hlt : k < nb + 1
  ·
   have hcl : CallsIn Fence.wide 4 Try.prog 99 #[.int .i64 (f.last + 1), .int .i64 k] W _ := callsIn_wide.2 (increasing_c (f.last + 1) k W)
   have HCL := hid hcl
   have HWW := hid hWW
   have HMP := hid hmp
   have HPLn := hid hpl
   clear hcl hWW hmp hpl
   gi_wp2_with ((try refine ⟨trivial, ?_⟩); (try refine ⟨hdd _, ?_⟩); gi_at_call 99; with_reducible refine HCL.out.mono ?_; clear HCL; rintro e W1 ⟨rfl, hE1, hq1, hq2⟩)
   rw [HWK.out] at hq2
   have hz1 := heap_lt hq1
   have hz0 := heap_lt hq2
   have hs1 := hE1.size
   have hnd1 : (W1.heap.size :: Ds).Nodup := List.nodup_cons.2 ⟨fun hm => by have := heap_lt (HD.out _ hm).2; omega, hnd⟩
   have HB1 := hid (hB.trans (Mo.ev hE1))
   clear k0 k1 k2 k3 k4 k5 k6 k7 k8 k9 k10 k11 b0
   have HSK := hid (show (List.range (k + 1)).foldl (M.bestL f ts) ([], 0) = (M.incr weeks k 0).foldl (M.bestS f ts) ((List.range k).foldl (M.bestL f ts) ([], 0)) by rw [List.range_succ, List.foldl_append]; exact HBL.out _ k)
   refine rangeX (F := Fence.wide) (n := 5) rfl (by omega) (gf := 118) (lb := #[.pointer (some ⟨W.heap.size + 1, 0, none⟩), .pointer (some ⟨W.heap.size, 0, none⟩)]) rfl trivial (fun args w => Try.call118 args w)
    (incr_seq Fence.wide rfl trivial trivial rfl 4 (W.heap.size + 1) W.heap.size k weeks (by omega) (by omega) W1 hq1 hq2) (Below.refl _ _) (fun j hj => by rcases hj with rfl | rfl <;> assumption) (fun _ => rfl) (incH_keep k)
    (fun B pre X => Mo mb w X ∧ (∃ g', Loads f g' ∧ MapIs Try.prog 143 X mb g') ∧ Hid (∀ D ∈ Ds, X.heap[D]? = some (.deferred (some []))) ∧ ∃ v, Hid (X.heap[w.heap.size]? = some (.cells #[.pointer (some ⟨p, 0, none⟩)] 106 (0, 0))) ∧ Hid (X.heap[w.heap.size + 1]? = some (.cells #[v] 23 (0, 0))) ∧ Hid (X.heap[w.heap.size + 1 + 1]? = some (.cells #[.int .i64 (pre.foldl (M.bestS f ts) ((List.range k).foldl (M.bestL f ts) ([], 0))).2] 3 (0, 0))) ∧ Pl (w.heap.size + 1 + 1 + 1) W1.heap.size B X v (pre.foldl (M.bestS f ts) ((List.range k).foldl (M.bestL f ts) ([], 0))).1)
    (fun _ _ _ _ => False)
    (fun _ x a' _ => a' = { tmps := #[.pointer (some ⟨p, 0, none⟩), .pointer (some ⟨w.heap.size, 0, none⟩), .pointer (some ⟨w.heap.size + 1, 0, none⟩), .pointer (some ⟨w.heap.size + 1 + 1, 0, none⟩), .int .i64 k, .slice (some ⟨W1.heap.size + 2 + 1, 0, none⟩) k k, u6, .pointer (some ⟨p, 0, none⟩), .pointer (some ⟨p, 0, none⟩), .pointer (some ⟨p, 0, none⟩), .pointer (some ⟨p, 3, none⟩), .slice Ab nb cb, .int .i64 nb, .int .i64 ((nb : Int) + 1), .int .i64 k, .bool true, .int .i64 k, .pointer (some ⟨p, 0, none⟩), .pointer (some ⟨p, 0, none⟩), .pointer (some ⟨p, 0, none⟩), .pointer (some ⟨p, 0, none⟩), .int .i64 f.last, .int .i64 (f.last + 1), .int .i64 k, .func (.func 118) #[] #[.pointer (some ⟨W.heap.size + 1, 0, none⟩), .pointer (some ⟨W.heap.size, 0, none⟩)], .slice (some ⟨W1.heap.size + 2 + 1, 0, none⟩) k k, u26, u27, u28, u29, u30, u31, u32, u33, u34, u35, u36, u37, u38, u39, u40, u41, u42, u43, u44, u45, u46, u47, u48, u49, u50], defers := [] })
    ?hI (fun _ _ _ _ _ _ h _ => h) (fun a' B s x y hB h hb => h) ?h0 ?assign ?body ?done ?stop
   case hI =>
    rintro B s x y hJB ⟨h1, ⟨g', hg', hm'⟩, hds, v, h2, h3, h4, h5⟩ hb
    have hx := h1.size
    refine ⟨h1.bar hb (by omega), ⟨g', hg', hm'.same (hb.block mb hm'.lt (by omega))⟩, hid (fun D hDm => (hb.block D (heap_lt (hds.out D hDm)) (by have := heap_lt (HD.out D hDm).2; omega)).trans (hds.out D hDm)), v, hid ((hb.block _ (heap_lt h2.out) (by omega)).trans h2.out), hid ((hb.block _ (heap_lt h3.out) (by omega)).trans h3.out), hid ((hb.block _ (heap_lt h4.out) (by omega)).trans h4.out), h5.bar hb⟩
   case h0 =>
    intro X hX
    obtain ⟨g', hg', hm'⟩ := HMP.out
    have hEX := hE1.trans hX
    refine ⟨HB1.out.trans (Mo.ev hX), ⟨g', hg', hm'.keep hEX hm'.lt⟩, hid (fun D hDm => hEX.heap (HD.out D hDm).2), v, hid (hEX.heap H0.out), hid (hEX.heap H1.out), hid (hEX.heap H2.out), ?_⟩
    obtain ⟨A', n', d', rfl, h1, h2, h3⟩ := HPLn.out.begin (J := W1.heap.size) (B := X.heap.size) (by omega)
    exact ⟨A', n', d', rfl, h1, h2.ev hEX, h3⟩
   case assign =>
    intro l B pre x X K hB hBX hI _ hK
    unfold incE
    gi_wp2
    exact hK _ _ (Ev.refl _) rfl
   case body =>
    rintro l B pre x a' X hB hBX ⟨hEX, hmX, HDX, v1, h1, h2, h3, h4⟩ rfl hh hpre
    have hxm : x ∈ M.incr weeks k 0 := hpre.subset (by simp)
    have hxs := hEX.size
    have hWX := HWC.out.mo hEX hmX
    have hsx := hh.2.keep (Below.refl _ X) hBX
    have hcx : CallsIn (Fence.wide.inRound l) 2 Try.prog 66 #[.pointer (some ⟨p, 0, none⟩), .slice (some ⟨W1.heap.size + 2 + 1, 0, none⟩) k k] X _ := CallsIn.inRound l (callsIn_wide.2 (HWO.out _ _ _ x (HPL.out k (by omega) x hxm) X hWX hsx))
    have HCX := hid hcx
    have HSX := hid hsx
    have hsu : M.sure f ts x = (M.span (ts.map fun t => M.total f t x)).lo := rfl
    have HSP := hid (fun B1 d1 X1 (h : Sl ics 1 X1 X1.heap.size B1 nt d1 (ts.map fun t => M.total f t x)) => (show CallsIn (Fence.wide.inRound l) 2 Try.prog 65 #[.slice B1 nt d1] X1 fun e w' => e = .returned (.agg #[.int .i64 (M.sure f ts x), .int .i64 (M.span (ts.map fun t => M.total f t x)).hi]) ∧ Ev X1 w' from CallsIn.inRound l (callsIn_wide.2 (spanL_c B1 nt d1 _ X1 hne h))))
    have HF := hid (show (pre ++ [x]).foldl (M.bestS f ts) ((List.range k).foldl (M.bestL f ts) ([], 0)) = M.bestS f ts (pre.foldl (M.bestS f ts) ((List.range k).foldl (M.bestL f ts) ([], 0))) x by rw [List.foldl_append]; rfl)
    generalize pre.foldl _ ((List.range k).foldl (M.bestL f ts) ([], 0)) = s at h3 h4 HF
    replace HF := hid (HF.out.trans (show M.bestS f ts s x = if s.2 < M.sure f ts x ∨ (M.sure f ts x = s.2 ∧ M.cmpL x s.1 < 0) then (x, M.sure f ts x) else s from rfl))
    generalize M.sure f ts x = su at HSP HF
    generalize (M.span (ts.map fun t => M.total f t x)).hi = hi0 at HSP
    obtain ⟨sp, sw⟩ := s
    simp only at h3 h4 HF
    obtain ⟨A', n', d', rfl, hn', hsl', hab⟩ := h4
    have HP4 : Hid (Pl (w.heap.size + 1 + 1 + 1) W1.heap.size B X (.slice A' n' d') sp) := hid ⟨A', n', d', rfl, hn', hsl', hab⟩
    have HCP := hid (fun X2 (hM : Mo mb X X2) => (show CallsIn (Fence.wide.inRound l) 2 Try.prog 103 #[.slice (some ⟨W1.heap.size + 2 + 1, 0, none⟩) k k, .slice A' n' d'] X2 fun e w' => e = .returned (.int .i64 (M.cmpL x sp)) ∧ w' = X2 from CallsIn.inRound l (callsIn_wide.2 (compareS_c _ _ _ _ _ _ x sp (by omega) (by omega) X2 (HSX.out.same hM.size (fun _ a e hl => hM.block _ hl (fun q => by have := Option.some.inj q; cases e; simp at this; omega))) (by
     obtain ⟨_, _, _, he, _, hsl2, _⟩ := HP4.out.mo hM (by omega)
     cases he
     exact hsl2)))))
    have HCN := hid (fun X2 (hM : Mo mb X X2) => (show CallsIn (Fence.wide.inRound l) 2 Try.prog 104 #[.slice (some ⟨W1.heap.size + 2 + 1, 0, none⟩) k k] X2 _ from CallsIn.inRound l (callsIn_wide.2 (cloneI_c _ k k x (by omega) X2 (HSX.out.same hM.size (fun _ a e hl => hM.block _ hl (fun q => by have := Option.some.inj q; cases e; simp at this; omega)))))))
    generalize M.cmpL x sp = cm at HCP HF
    have b0 := cell_in h1.out 0
    simp only [List.getElem?_toArray, List.getElem?_cons_zero] at b0
    clear hcx hsx hWX hsl' hab hsu
    have hfl := fun wx => fieldLo su hi0 wx
    by_cases g1 : sw < su
    ·
     have g1' : (su == sw) = false := by simp; omega
     have d1 : decide (sw < su) = true := decide_eq_true g1
     have HF3 := hid (HF.out.trans (if_pos (Or.inl g1)))
     gi_wp2_with (first | ((try refine ⟨trivial, ?_⟩); (try refine ⟨hdd _, ?_⟩); gi_at_call 66; with_reducible refine HCX.out.mono ?_; rintro e X1 ⟨⟨B1, d1, rfl, hsl1⟩, hW1, hM1⟩; have HS1 := hid hsl1; have HW1 := hid hW1; have HM1 := hid hM1; clear hsl1 hW1 hM1) | ((try refine ⟨trivial, ?_⟩); (try refine ⟨hdd _, ?_⟩); gi_at_call 65; with_reducible refine (HSP.out _ _ _ HS1.out).mono ?_; rintro e X2 ⟨rfl, hE2⟩; have HM2 := hid (HM1.out.trans (Mo.ev hE2)); have q1 := HM2.out.heap h2.out (by omega); have q2 := HM2.out.heap h3.out (by omega); have b1 := cell_in q1 0; have b2 := cell_in q2 0; simp only [List.getElem?_toArray, List.getElem?_cons_zero] at b1 b2; have HQ1 := hid q1; have HQ2 := hid q2; have HE2 := hid hE2; clear q1 q2 hE2) | ((try refine ⟨trivial, ?_⟩); (try refine ⟨hdd _, ?_⟩); gi_at_call 103; with_reducible refine (HCP.out X2 HM2.out).mono ?_; rintro e X3 ⟨rfl, hX3⟩; cases hX3) | ((try refine ⟨trivial, ?_⟩); (try refine ⟨hdd _, ?_⟩); gi_at_call 104; with_reducible refine (HCN.out X2 HM2.out).mono ?_; rintro e X4 ⟨⟨B4, d4, rfl, hown4⟩, hE4⟩; have q3 := hE4.heap HQ1.out; have q4 := hE4.heap HQ2.out; have b3 := cell_in q3 0; have b4 := cell_in q4 0; have fz3 := frozen_in q3 0; have fz4 := frozen_in q4 0; simp only [List.getElem?_toArray, List.getElem?_cons_zero] at b3 b4; have HQ3 := hid q3; have HQ4 := hid q4; have HO4 := hid hown4; have HE4 := hid hE4; clear q3 q4 hown4 hE4) | (refine ⟨trivial, ?_⟩))
     have hM4 := HM2.out.trans (Mo.ev HE4.out)
     have hs2 := HM2.out.size
     have hs4 := hM4.size
     obtain ⟨g', hg', hm'⟩ := HW1.out.mp
     have hm4 := (hm'.keep HE2.out hm'.lt).keep HE4.out (hm'.keep HE2.out hm'.lt).lt
     have hgt : ∀ j, (w.heap.size + 1 + 1 + 1 ≤ j) → ((X4.setCell ⟨w.heap.size + 1, 0, none⟩ (.slice B4 k d4)).setCell ⟨w.heap.size + 1 + 1, 0, none⟩ (.int .i64 su)).heap[j]? = X4.heap[j]? := fun j hj => (Below.heap_setCell _ _ _ j (by simp; omega)).trans (Below.heap_setCell _ _ _ j (by simp; omega))
     have hsz : X4.heap.size ≤ ((X4.setCell ⟨w.heap.size + 1, 0, none⟩ (.slice B4 k d4)).setCell ⟨w.heap.size + 1 + 1, 0, none⟩ (.int .i64 su)).heap.size := by simp [World.setCell]
     refine ⟨⟨Nat.le_trans hs4 hsz, fun j hj hor => ?_⟩, ((hEX.trans hM4).setCell (by simp) _).setCell (by simp; omega) _, ⟨g', hg', hm4.same ?_⟩, hid (fun D hDm => ?_), .slice B4 k d4, hid ?_, hid ?_, hid ?_, ?_⟩
     ·
      have hj2 : w.heap.size + 1 + 1 + 1 ≤ j ∧ j ≠ mb := by rcases hor with (rfl | rfl) | ⟨_, _⟩ <;> omega
      exact (hgt j hj2.1).trans (hM4.block j hj (fun q => hj2.2 (Option.some.inj q)))
     ·
      exact (Below.heap_setCell _ _ _ mb (by simp; omega)).trans (Below.heap_setCell _ _ _ mb (by simp; omega))
     ·
      exact (hgt D (HD.out D hDm).1).trans (hM4.heap (HDX.out D hDm) (by have := (HD.out D hDm).1; omega))
     ·
      exact set_heap (set_heap (hM4.heap h1.out (by omega)) (by omega)) (by omega)
     ·
      exact set_heap (by rw [set_heap_same HQ3.out]; rfl) (by omega)
     ·
      rw [HF3.out, set_heap_same (set_heap HQ4.out (by omega))]; rfl
     ·
      rw [HF3.out]
      exact Pl.own HO4.out (by omega) (by omega) (by omega) hsz hgt
    ·
     have d1 : decide (sw < su) = false := decide_eq_false g1
     by_cases g2 : su = sw
     ·
      subst g2
      by_cases g3 : cm < 0
      ·
       have g4 : (su == su) = true := by simp
       have d3 : decide (cm < 0) = true := decide_eq_true g3
       have HF3 := hid (HF.out.trans (if_pos (Or.inr ⟨rfl, g3⟩)))
       gi_wp2_with (first | ((try refine ⟨trivial, ?_⟩); (try refine ⟨hdd _, ?_⟩); gi_at_call 66; with_reducible refine HCX.out.mono ?_; rintro e X1 ⟨⟨B1, d1, rfl, hsl1⟩, hW1, hM1⟩; have HS1 := hid hsl1; have HW1 := hid hW1; have HM1 := hid hM1; clear hsl1 hW1 hM1) | ((try refine ⟨trivial, ?_⟩); (try refine ⟨hdd _, ?_⟩); gi_at_call 65; with_reducible refine (HSP.out _ _ _ HS1.out).mono ?_; rintro e X2 ⟨rfl, hE2⟩; have HM2 := hid (HM1.out.trans (Mo.ev hE2)); have q1 := HM2.out.heap h2.out (by omega); have q2 := HM2.out.heap h3.out (by omega); have b1 := cell_in q1 0; have b2 := cell_in q2 0; simp only [List.getElem?_toArray, List.getElem?_cons_zero] at b1 b2; have HQ1 := hid q1; have HQ2 := hid q2; have HE2 := hid hE2; clear q1 q2 hE2) | ((try refine ⟨trivial, ?_⟩); (try refine ⟨hdd _, ?_⟩); gi_at_call 103; with_reducible refine (HCP.out X2 HM2.out).mono ?_; rintro e X3 ⟨rfl, hX3⟩; cases hX3) | ((try refine ⟨trivial, ?_⟩); (try refine ⟨hdd _, ?_⟩); gi_at_call 104; with_reducible refine (HCN.out X2 HM2.out).mono ?_; rintro e X4 ⟨⟨B4, d4, rfl, hown4⟩, hE4⟩; have q3 := hE4.heap HQ1.out; have q4 := hE4.heap HQ2.out; have b3 := cell_in q3 0; have b4 := cell_in q4 0; have fz3 := frozen_in q3 0; have fz4 := frozen_in q4 0; simp only [List.getElem?_toArray, List.getElem?_cons_zero] at b3 b4; have HQ3 := hid q3; have HQ4 := hid q4; have HO4 := hid hown4; have HE4 := hid hE4; clear q3 q4 hown4 hE4) | (refine ⟨trivial, ?_⟩))
       have hM4 := HM2.out.trans (Mo.ev HE4.out)
       have hs2 := HM2.out.size
       have hs4 := hM4.size
       obtain ⟨g', hg', hm'⟩ := HW1.out.mp
       have hm4 := (hm'.keep HE2.out hm'.lt).keep HE4.out (hm'.keep HE2.out hm'.lt).lt
       have hgt : ∀ j, (w.heap.size + 1 + 1 + 1 ≤ j) → ((X4.setCell ⟨w.heap.size + 1, 0, none⟩ (.slice B4 k d4)).setCell ⟨w.heap.size + 1 + 1, 0, none⟩ (.int .i64 su)).heap[j]? = X4.heap[j]? := fun j hj => (Below.heap_setCell _ _ _ j (by simp; omega)).trans (Below.heap_setCell _ _ _ j (by simp; omega))
       have hsz : X4.heap.size ≤ ((X4.setCell ⟨w.heap.size + 1, 0, none⟩ (.slice B4 k d4)).setCell ⟨w.heap.size + 1 + 1, 0, none⟩ (.int .i64 su)).heap.size := by simp [World.setCell]
       refine ⟨⟨Nat.le_trans hs4 hsz, fun j hj hor => ?_⟩, ((hEX.trans hM4).setCell (by simp) _).setCell (by simp; omega) _, ⟨g', hg', hm4.same ?_⟩, hid (fun D hDm => ?_), .slice B4 k d4, hid ?_, hid ?_, hid ?_, ?_⟩
       ·
        have hj2 : w.heap.size + 1 + 1 + 1 ≤ j ∧ j ≠ mb := by rcases hor with (rfl | rfl) | ⟨_, _⟩ <;> omega
        exact (hgt j hj2.1).trans (hM4.block j hj (fun q => hj2.2 (Option.some.inj q)))
       ·
        exact (Below.heap_setCell _ _ _ mb (by simp; omega)).trans (Below.heap_setCell _ _ _ mb (by simp; omega))
       ·
        exact (hgt D (HD.out D hDm).1).trans (hM4.heap (HDX.out D hDm) (by have := (HD.out D hDm).1; omega))
       ·
        exact set_heap (set_heap (hM4.heap h1.out (by omega)) (by omega)) (by omega)
       ·
        exact set_heap (by rw [set_heap_same HQ3.out]; rfl) (by omega)
       ·
        rw [HF3.out, set_heap_same (set_heap HQ4.out (by omega))]; rfl
       ·
        rw [HF3.out]
        exact Pl.own HO4.out (by omega) (by omega) (by omega) hsz hgt
      ·
       have g4 : (su == su) = true := by simp
       have d3 : decide (cm < 0) = false := decide_eq_false g3
       have HF3 := hid (HF.out.trans (if_neg (fun h => by rcases h with h | h; exact g1 h; exact g3 h.2)))
       gi_wp2_with (first | ((try refine ⟨trivial, ?_⟩); (try refine ⟨hdd _, ?_⟩); gi_at_call 66; with_reducible refine HCX.out.mono ?_; rintro e X1 ⟨⟨B1, d1, rfl, hsl1⟩, hW1, hM1⟩; have HS1 := hid hsl1; have HW1 := hid hW1; have HM1 := hid hM1; clear hsl1 hW1 hM1) | ((try refine ⟨trivial, ?_⟩); (try refine ⟨hdd _, ?_⟩); gi_at_call 65; with_reducible refine (HSP.out _ _ _ HS1.out).mono ?_; rintro e X2 ⟨rfl, hE2⟩; have HM2 := hid (HM1.out.trans (Mo.ev hE2)); have q1 := HM2.out.heap h2.out (by omega); have q2 := HM2.out.heap h3.out (by omega); have b1 := cell_in q1 0; have b2 := cell_in q2 0; simp only [List.getElem?_toArray, List.getElem?_cons_zero] at b1 b2; have HQ1 := hid q1; have HQ2 := hid q2; have HE2 := hid hE2; clear q1 q2 hE2) | ((try refine ⟨trivial, ?_⟩); (try refine ⟨hdd _, ?_⟩); gi_at_call 103; with_reducible refine (HCP.out X2 HM2.out).mono ?_; rintro e X3 ⟨rfl, hX3⟩; cases hX3) | ((try refine ⟨trivial, ?_⟩); (try refine ⟨hdd _, ?_⟩); gi_at_call 104; with_reducible refine (HCN.out X2 HM2.out).mono ?_; rintro e X4 ⟨⟨B4, d4, rfl, hown4⟩, hE4⟩; have q3 := hE4.heap HQ1.out; have q4 := hE4.heap HQ2.out; have b3 := cell_in q3 0; have b4 := cell_in q4 0; have fz3 := frozen_in q3 0; have fz4 := frozen_in q4 0; simp only [List.getElem?_toArray, List.getElem?_cons_zero] at b3 b4; have HQ3 := hid q3; have HQ4 := hid q4; have HO4 := hid hown4; have HE4 := hid hE4; clear q3 q4 hown4 hE4) | (refine ⟨trivial, ?_⟩))
       have hs2 := HM2.out.size
       obtain ⟨g', hg', hm'⟩ := HW1.out.mp
       refine ⟨⟨hs2, fun j hj hor => HM2.out.block j hj (fun q => ?_)⟩, hEX.trans HM2.out, ⟨g', hg', hm'.keep HE2.out hm'.lt⟩, hid (fun D hDm => HM2.out.heap (HDX.out D hDm) (by have := (HD.out D hDm).1; omega)), .slice A' n' d', hid (HM2.out.heap h1.out (by omega)), hid HQ1.out, hid (by rw [HF3.out]; exact HQ2.out), by rw [HF3.out]; exact HP4.out.mo HM2.out (by omega)⟩
       have := Option.some.inj q
       rcases hor with (h | h) | ⟨_, _⟩ <;> omega
     ·
      have g4 : (su == sw) = false := by simpa using g2
      have HF3 := hid (HF.out.trans (if_neg (fun h => by rcases h with h | h; exact g1 h; exact g2 h.1)))
      gi_wp2_with (first | ((try refine ⟨trivial, ?_⟩); (try refine ⟨hdd _, ?_⟩); gi_at_call 66; with_reducible refine HCX.out.mono ?_; rintro e X1 ⟨⟨B1, d1, rfl, hsl1⟩, hW1, hM1⟩; have HS1 := hid hsl1; have HW1 := hid hW1; have HM1 := hid hM1; clear hsl1 hW1 hM1) | ((try refine ⟨trivial, ?_⟩); (try refine ⟨hdd _, ?_⟩); gi_at_call 65; with_reducible refine (HSP.out _ _ _ HS1.out).mono ?_; rintro e X2 ⟨rfl, hE2⟩; have HM2 := hid (HM1.out.trans (Mo.ev hE2)); have q1 := HM2.out.heap h2.out (by omega); have q2 := HM2.out.heap h3.out (by omega); have b1 := cell_in q1 0; have b2 := cell_in q2 0; simp only [List.getElem?_toArray, List.getElem?_cons_zero] at b1 b2; have HQ1 := hid q1; have HQ2 := hid q2; have HE2 := hid hE2; clear q1 q2 hE2) | ((try refine ⟨trivial, ?_⟩); (try refine ⟨hdd _, ?_⟩); gi_at_call 103; with_reducible refine (HCP.out X2 HM2.out).mono ?_; rintro e X3 ⟨rfl, hX3⟩; cases hX3) | ((try refine ⟨trivial, ?_⟩); (try refine ⟨hdd _, ?_⟩); gi_at_call 104; with_reducible refine (HCN.out X2 HM2.out).mono ?_; rintro e X4 ⟨⟨B4, d4, rfl, hown4⟩, hE4⟩; have q3 := hE4.heap HQ1.out; have q4 := hE4.heap HQ2.out; have b3 := cell_in q3 0; have b4 := cell_in q4 0; have fz3 := frozen_in q3 0; have fz4 := frozen_in q4 0; simp only [List.getElem?_toArray, List.getElem?_cons_zero] at b3 b4; have HQ3 := hid q3; have HQ4 := hid q4; have HO4 := hid hown4; have HE4 := hid hE4; clear q3 q4 hown4 hE4) | (refine ⟨trivial, ?_⟩))
      have hs2 := HM2.out.size
      obtain ⟨g', hg', hm'⟩ := HW1.out.mp
      refine ⟨⟨hs2, fun j hj hor => HM2.out.block j hj (fun q => ?_)⟩, hEX.trans HM2.out, ⟨g', hg', hm'.keep HE2.out hm'.lt⟩, hid (fun D hDm => HM2.out.heap (HDX.out D hDm) (by have := (HD.out D hDm).1; omega)), .slice A' n' d', hid (HM2.out.heap h1.out (by omega)), hid HQ1.out, hid (by rw [HF3.out]; exact HQ2.out), by rw [HF3.out]; exact HP4.out.mo HM2.out (by omega)⟩
      have := Option.some.inj q
      rcases hor with (h | h) | ⟨_, _⟩ <;> omega
   case done =>
    rintro B X hB ⟨hEX, hmX, HDX, v1, h1, h2, h3, h4⟩ hD
    gi_wp2
    refine ⟨⟨k + 1, W1.heap.size :: Ds, v1, _, _, _, _, _, _, _, _, _, _, _, _, _, _, _, _, _, _, _, _, _, _, _, _, _, _, _, _, _, _, _, _, _, _, _, _, _, _, _, by rw [show ((k + 1 : Nat) : Int) = (k : Int) + 1 from by omega]; rfl, by omega, hEX, hmX, h1, h2, hid (by rw [HSK.out]; exact h3.out), by rw [HSK.out]; exact h4.ended, by have := hEX.size; have := heap_lt h3.out; omega, hnd1, hid ?_⟩, by simp [intOf]; omega⟩
    intro D hDm
    rcases List.mem_cons.1 hDm with rfl | hDm
    ·
     exact ⟨by omega, hD⟩
    ·
     exact ⟨(HD.out D hDm).1, HDX.out D hDm⟩
   case stop =>
    intro B c pre X _ _ h
    exact h.elim
  ·
   obtain rfl : k = nb + 1 := by omega
   obtain ⟨⟨sp, sw⟩, hs⟩ : ∃ s, M.best f ts = s := ⟨_, rfl⟩
   have h2 := H2.out
   rw [← HBE.out, hs] at h2 hpl
   obtain ⟨A', n', d', rfl, hn', hsl', hab⟩ := hpl
   simp only at h2 hsl'
   have b1 := cell_in H1.out 0
   have b2 := cell_in h2 0
   have fz1 := frozen_in H1.out 0
   have fz2 := frozen_in h2 0
   simp only [List.getElem?_toArray, List.getElem?_cons_zero] at b1 b2
   have HBS := hid hs
   have HH2 := hid h2
   have HAB := hid hab
   have HSL := hid hsl'
   have HWW := hid hWW
   have HMP := hid hmp
   have HY1 : Hid ((W.setCell ⟨w.heap.size + 1, 0, none⟩ (.slice A' n' d')).heap[w.heap.size + 1]? = some (.cells #[.slice A' n' d'] 23 (0, 0))) := hid (by rw [set_heap_same H1.out]; rfl)
   have HY2 : Hid ((W.setCell ⟨w.heap.size + 1, 0, none⟩ (.slice A' n' d')).heap[w.heap.size + 1 + 1]? = some (.cells #[.int .i64 sw] 3 (0, 0))) := hid (set_heap HH2.out (by omega))
   have HZ1 : Hid (((W.setCell ⟨w.heap.size + 1, 0, none⟩ (.slice A' n' d')).setCell ⟨w.heap.size + 1 + 1, 0, none⟩ (.int .i64 sw)).heap[w.heap.size + 1]? = some (.cells #[.slice A' n' d'] 23 (0, 0))) := hid (set_heap HY1.out (by omega))
   have HZ2 : Hid (((W.setCell ⟨w.heap.size + 1, 0, none⟩ (.slice A' n' d')).setCell ⟨w.heap.size + 1 + 1, 0, none⟩ (.int .i64 sw)).heap[w.heap.size + 1 + 1]? = some (.cells #[.int .i64 sw] 3 (0, 0))) := hid (by rw [set_heap_same HY2.out]; rfl)
   have HFIN := hid (fun (w' : World) (hb' : Below w.heap.size ((W.setCell ⟨w.heap.size + 1, 0, none⟩ (.slice A' n' d')).setCell ⟨w.heap.size + 1 + 1, 0, none⟩ (.int .i64 sw)) w') (hk' : ∀ j, j ∉ Ds → w'.heap[j]? = ((W.setCell ⟨w.heap.size + 1, 0, none⟩ (.slice A' n' d')).setCell ⟨w.heap.size + 1 + 1, 0, none⟩ (.int .i64 sw)).heap[j]?) => (show (w'.cell? ⟨w.heap.size + 1, 0, none⟩ = some (.slice A' n' d') ∧ w'.cell? ⟨w.heap.size + 1 + 1, 0, none⟩ = some (.int .i64 sw)) ∧ ((∃ B d, (Ending.returned (.tuple #[.slice A' n' d', .int .i64 sw]) = .returned (.tuple #[.slice B (M.best f ts).1.length d, .int .i64 (M.best f ts).2])) ∧ Sl ics 1 w' w'.heap.size B (M.best f ts).1.length d (M.best f ts).1) ∧ Wc w' f Ag Aw Ab Ac Al ng cg nw cw nb cb nc cc nl cl At As nt ct ns cs p mb ts ss ∧ Mo mb w w') from by
    have hq1 : w'.heap[w.heap.size + 1]? = _ := (hk' _ (fun hm => by have := (HD.out _ hm).1; omega)).trans HZ1.out
    have hq2 : w'.heap[w.heap.size + 1 + 1]? = _ := (hk' _ (fun hm => by have := (HD.out _ hm).1; omega)).trans HZ2.out
    have d1 := cell_in hq1 0
    have d2 := cell_in hq2 0
    simp only [List.getElem?_toArray, List.getElem?_cons_zero] at d1 d2
    have hmo : Mo mb w w' := Mo.below ((hB.setCell (p := ⟨w.heap.size + 1, 0, none⟩) (by simp) _).setCell (p := ⟨w.heap.size + 1 + 1, 0, none⟩) (by simp; omega) _) hb'
    have hsz : W.heap.size ≤ w'.heap.size := Nat.le_trans (by simp [World.setCell]) hb'.size
    obtain ⟨g', hg', hm'⟩ := HMP.out
    have hmp' : (∃ g', Loads f g' ∧ MapIs Try.prog 143 w' mb g') := ⟨g', hg', hm'.same ((hb'.block mb hml).trans ((Below.heap_setCell _ _ _ mb (by simp; omega)).trans (Below.heap_setCell _ _ _ mb (by simp; omega))))⟩
    refine ⟨⟨d1, d2⟩, ⟨A', d', ?_, ?_⟩, HWC.out.mo hmo hmp', hmo⟩
    ·
     rw [HBS.out, HSL.out.len]
    ·
     rw [HBS.out]
     show Sl ics 1 w' w'.heap.size A' sp.length d' sp
     rw [HSL.out.len]
     refine HSL.out.same hsz (fun h0 a e hl => ?_)
     obtain ⟨b, off, hA, hb, hc⟩ := HSL.out.cells h0
     have hx : ∃ x, sp[0]? = some x := ⟨_, List.getElem?_eq_getElem (by rw [HSL.out.len]; exact h0)⟩
     obtain ⟨x, hx⟩ := hx
     have hc0 := hc 0 x hx 0 _ rfl
     have ha := (HAB.out h0 a e).1
     rw [e] at hA
     cases hA
     have ha' : w.heap.size + 1 + 1 + 1 ≤ b := ha
     exact (hk' b (fun hm => def_ne hc0 (HD.out b hm).2 rfl)).trans ((Below.heap_setCell _ _ _ b (by simp; omega)).trans (Below.heap_setCell _ _ _ b (by simp; omega)))))
   have HLD := hid (fun D hDm => ⟨by have := (HD.out D hDm).1; omega, set_heap (set_heap (HD.out D hDm).2 (by have := (HD.out D hDm).1; omega)) (by have := (HD.out D hDm).1; omega)⟩ : ∀ D ∈ Ds, w.heap.size ≤ D ∧ ((W.setCell ⟨w.heap.size + 1, 0, none⟩ (.slice A' n' d')).setCell ⟨w.heap.size + 1 + 1, 0, none⟩ (.int .i64 sw)).heap[D]? = some (.deferred (some [])))
   clear h2 hab hsl' k0 k1 k2 k3 k4 k5 k6 k7 k8 k9 k10 k11 H2 b0 hs hWW hmp
   have y1 := cell_in HY1.out 0
   have y2 := cell_in HY2.out 0
   have yf1 := frozen_in HY1.out 0
   have yf2 := frozen_in HY2.out 0
   simp only [List.getElem?_toArray, List.getElem?_cons_zero] at y1 y2
   gi_upto_region 10 with fail
   refine wpIn_wide.2 ?_
   refine wp_region_held_drew (S := fun _ => True) (by kernel_rfl) trivial (fun hHeld => ?_)
   refine wpAnyH_ready (rs := [0, 1]) (by kernel_rfl) (by simp) ?_
   refine AllReadyH.cons rfl (fun K hK => ?_) (AllReadyH.cons rfl (fun K hK => ?_) (AllReadyH.nil))
   ·
    go_simp
    refine hK.out _ _ trivial (fun hHeld => ?_)
    clear hK K
    (try simp only [Act.put, List.setIfInBounds_toArray, List.set_cons_zero, List.set_cons_succ])
    refine wpAnyH_ready (rs := [1, 2]) (by kernel_rfl) (by simp) ?_
    refine AllReadyH.cons rfl (fun K hK => ?_) (AllReadyH.cons rfl (fun K hK => ?_) (AllReadyH.nil))
    ·
     go_simp
     refine hK.out _ _ trivial (fun hHeld => ?_)
     clear hK K
     (try simp only [Act.put, List.setIfInBounds_toArray, List.set_cons_zero, List.set_cons_succ])
     refine wpAnyH_ready (rs := [2]) (by kernel_rfl) (by simp) ?_
     refine AllReadyH.cons rfl (fun K hK => ?_) (AllReadyH.nil)
     go_simp
     refine hK.out _ _ trivial (fun hHeld => ?_)
     clear hK K
     (try simp only [Act.put, List.setIfInBounds_toArray, List.set_cons_zero, List.set_cons_succ])
     refine wpAnyH_ready (rs := [3]) (by kernel_rfl) (by simp) ?_
     refine AllReadyH.cons rfl (fun K hK => ?_) (AllReadyH.nil)
     go_simp
     refine hK.out _ _ trivial (fun hHeld => ?_)
     clear hK K
     (try simp only [Act.put, List.setIfInBounds_toArray, List.set_cons_zero, List.set_cons_succ])
     refine wpAnyH_done (by kernel_rfl) ?_ _
     gi_wp2
     show LeavesInM Fence.wide 5 Try.prog Try.f73 _ _ (marks Ds) .returning _
     refine leaves_marks (A := w.heap.size) Ds _ hnd HLD.out (fun w' hb' hk' => ?_)
     obtain ⟨⟨d1, d2⟩, hfin⟩ := HFIN.out w' ⟨hb'.os, hb'.tape, hb'.output, hb'.size, hb'.block⟩ hk'
     exact ⟨_, by simp [results, Try.results73, go_sem, d1, d2], hfin⟩
    ·
     go_simp
     refine hK.out _ _ trivial (fun hHeld => ?_)
     clear hK K
     (try simp only [Act.put, List.setIfInBounds_toArray, List.set_cons_zero, List.set_cons_succ])
     refine wpAnyH_ready (rs := [1]) (by kernel_rfl) (by simp) ?_
     refine AllReadyH.cons rfl (fun K hK => ?_) (AllReadyH.nil)
     go_simp
     refine hK.out _ _ trivial (fun hHeld => ?_)
     clear hK K
     (try simp only [Act.put, List.setIfInBounds_toArray, List.set_cons_zero, List.set_cons_succ])
     refine wpAnyH_ready (rs := [3]) (by kernel_rfl) (by simp) ?_
     refine AllReadyH.cons rfl (fun K hK => ?_) (AllReadyH.nil)
     go_simp
     refine hK.out _ _ trivial (fun hHeld => ?_)
     clear hK K
     (try simp only [Act.put, List.setIfInBounds_toArray, List.set_cons_zero, List.set_cons_succ])
     refine wpAnyH_done (by kernel_rfl) ?_ _
     gi_wp2
     show LeavesInM Fence.wide 5 Try.prog Try.f73 _ _ (marks Ds) .returning _
     refine leaves_marks (A := w.heap.size) Ds _ hnd HLD.out (fun w' hb' hk' => ?_)
     obtain ⟨⟨d1, d2⟩, hfin⟩ := HFIN.out w' ⟨hb'.os, hb'.tape, hb'.output, hb'.size, hb'.block⟩ hk'
     exact ⟨_, by simp [results, Try.results73, go_sem, d1, d2], hfin⟩
   ·
    go_simp
    refine hK.out _ _ trivial (fun hHeld => ?_)
    clear hK K
    (try simp only [Act.put, List.setIfInBounds_toArray, List.set_cons_zero, List.set_cons_succ])
    refine wpAnyH_ready (rs := [0]) (by kernel_rfl) (by simp) ?_
    refine AllReadyH.cons rfl (fun K hK => ?_) (AllReadyH.nil)
    go_simp
    refine hK.out _ _ trivial (fun hHeld => ?_)
    clear hK K
    (try simp only [Act.put, List.setIfInBounds_toArray, List.set_cons_zero, List.set_cons_succ])
    refine wpAnyH_ready (rs := [2]) (by kernel_rfl) (by simp) ?_
    refine AllReadyH.cons rfl (fun K hK => ?_) (AllReadyH.nil)
    go_simp
    refine hK.out _ _ trivial (fun hHeld => ?_)
    clear hK K
    (try simp only [Act.put, List.setIfInBounds_toArray, List.set_cons_zero, List.set_cons_succ])
    refine wpAnyH_ready (rs := [3]) (by kernel_rfl) (by simp) ?_
    refine AllReadyH.cons rfl (fun K hK => ?_) (AllReadyH.nil)
    go_simp
    refine hK.out _ _ trivial (fun hHeld => ?_)
    clear hK K
    (try simp only [Act.put, List.setIfInBounds_toArray, List.set_cons_zero, List.set_cons_succ])
    refine wpAnyH_done (by kernel_rfl) ?_ _
    gi_wp2
    show LeavesInM Fence.wide 5 Try.prog Try.f73 _ _ (marks Ds) .returning _
    refine leaves_marks (A := w.heap.size) Ds _ hnd HLD.out (fun w' hb' hk' => ?_)
    obtain ⟨⟨d1, d2⟩, hfin⟩ := HFIN.out w' ⟨hb'.os, hb'.tape, hb'.output, hb'.size, hb'.block⟩ hk'
    exact ⟨_, by simp [results, Try.results73, go_sem, d1, d2], hfin⟩
theorem best_c (f : M.Cf) (Ag Aw Ab Ac Al : Option Addr) (ng cg nw cw nb cb nc cc nl cl : Nat) (At As : Option Addr) (nt ct ns cs p mb : Nat) (ts : List M.Tr) (ss : List (List Int)) (h0 : M.check f = 0) (hne : 0 < nt) (hts : ∀ t ∈ ts, M.listed f t = true) (w : World) (hw : Wc w f Ag Aw Ab Ac Al ng cg nw cw nb cb nc cc nl cl At As nt ct ns cs p mb ts ss) :
  Calls Try.prog 73 #[.pointer (some ⟨p, 0, none⟩)] w fun e w' => (∃ B d, e = .returned (.tuple #[.slice B (M.best f ts).1.length d, .int .i64 (M.best f ts).2]) ∧ Sl ics 1 w' w'.heap.size B (M.best f ts).1.length d (M.best f ts).1) ∧ Wc w' f Ag Aw Ab Ac Al ng cg nw cw nb cb nc cc nl cl At As nt ct ns cs p mb ts ss ∧ Mo mb w w' :=
 callsIn_wide.1 (best_in f Ag Aw Ab Ac Al ng cg nw cw nb cb nc cc nl cl At As nt ct ns cs p mb ts ss h0 hne hts w hw)

end Go.Proofs.Ytffbkbcjddigdaa
