import Derived.Test.YtffbkbcjddigdaaA35
set_option linter.unusedSimpArgs false
set_option linter.unusedVariables false
namespace Go.Proofs.Ytffbkbcjddigdaa
open Go.RowKit Go.Shelf

/-- What slices.Compare says. -/
def M.cmpL : List Int → List Int → Int
  | [], [] => 0
  | [], _ :: _ => -1
  | _ :: _, [] => 1
  | x :: xs, y :: ys => if x < y then -1 else if y < x then 1 else M.cmpL xs ys

set_option maxRecDepth 100000 in
set_option maxHeartbeats 2000000 in
theorem compareS_c (A1 A2 : Option Addr) (n1 c1 n2 c2 : Nat) (xs ys : List Int) (h1 : n1 ≤ 1000) (h2 : n2 ≤ 1000) (w : World) (ha : Sl ics 1 w w.heap.size A1 n1 c1 xs) (hb : Sl ics 1 w w.heap.size A2 n2 c2 ys) :
    Calls Try.prog 103 #[.slice A1 n1 c1, .slice A2 n2 c2] w fun e w' => e = .returned (.int .i64 (M.cmpL xs ys)) ∧ w' = w := by
  have HXL := hid ha.len
  have HYL := hid hb.len
  have hcap1 := ha.cap
  have hcap2 := hb.cap
  go_enter Try.func103, Try.ntmps103
  go_wp2
  go_loopw [11] (fun i wr => ∃ k : Nat, i = .int .i64 k ∧ k ≤ n1 ∧ k ≤ n2 ∧ wr = w ∧ Hid (M.cmpL (xs.drop k) (ys.drop k) = M.cmpL xs ys)) (fun i _ => n1 - (intOf i).toNat)
  case atStart => exact ⟨0, rfl, by omega, by omega, rfl, hid (by simp)⟩
  case round =>
    obtain ⟨k, rfl, hk, hk2, rfl, hF⟩ := hrel
    by_cases hlt : k < n1
    · obtain ⟨b1, o1, x, rfl, hb1, hx, hd, e0⟩ := ha.int (Below.refl _ _) hlt
      by_cases hlt2 : k < n2
      · obtain ⟨b2, o2, y, rfl, hb2, hy, hd2, e1⟩ := hb.int (Below.refl _ _) hlt2
        have HC := hid (compare_c x y)
        have HF2 := hid (show M.cmpL xs ys = (if x < y then -1 else if y < x then 1 else M.cmpL (xs.drop (k + 1)) (ys.drop (k + 1))) by rw [← hF.out, hd, hd2, M.cmpL])
        clear hx hd hy hd2 hF
        by_cases g1 : x < y
        · have hm : M.cmp x y = -1 := by unfold M.cmp; rw [if_pos g1]
          have HF3 := hid (HF2.out.trans (if_pos g1))
          rw [hm] at HC
          clear hm HF2
          go_wp2_with (go_at_call 112; with_reducible refine (HC.out _).mono ?_; rintro e w1 ⟨rfl, h1⟩; cases h1)
          go_ret
          exact ⟨by rw [HF3.out]; rfl, by trivial⟩
        · by_cases g2 : y < x
          · have hm : M.cmp x y = 1 := by unfold M.cmp; rw [if_neg g1, if_pos g2]
            have HF3 := hid ((HF2.out.trans (if_neg g1)).trans (if_pos g2))
            rw [hm] at HC
            clear hm HF2
            go_wp2_with (go_at_call 112; with_reducible refine (HC.out _).mono ?_; rintro e w1 ⟨rfl, h1⟩; cases h1)
            go_ret
            exact ⟨by rw [HF3.out]; rfl, by trivial⟩
          · have hm : M.cmp x y = 0 := by unfold M.cmp; rw [if_neg g1, if_neg g2]
            have HF3 := hid ((HF2.out.trans (if_neg g1)).trans (if_neg g2))
            rw [hm] at HC
            clear hm HF2
            go_wp2_with (go_at_call 112; with_reducible refine (HC.out _).mono ?_; rintro e w1 ⟨rfl, h1⟩; cases h1)
            exact ⟨⟨k + 1, by go_num, by omega, by omega, by trivial, hid HF3.out.symm⟩, by simp [intOf]; omega⟩
      · obtain rfl : k = n2 := by omega
        have HF3 := hid (show M.cmpL xs ys = 1 by rw [← hF.out, hd, show ys.drop k = [] from List.drop_eq_nil_of_le (by rw [HYL.out]; exact Nat.le_refl _), M.cmpL])
        clear hx hd hF
        go_wp2
        go_ret
        exact ⟨by rw [HF3.out]; rfl, by trivial⟩
    · obtain rfl : k = n1 := by omega
      by_cases hlt2 : k < n2
      · obtain ⟨b2, o2, y, rfl, hb2, hy, hd2, e1⟩ := hb.int (Below.refl _ _) hlt2
        have HF3 := hid (show M.cmpL xs ys = -1 by rw [← hF.out, hd2, show xs.drop k = [] from List.drop_eq_nil_of_le (by rw [HXL.out]; exact Nat.le_refl _), M.cmpL])
        clear hy hd2 hF
        go_wp2
        go_ret
        exact ⟨by rw [HF3.out]; rfl, by trivial⟩
      · obtain rfl : k = n2 := by omega
        have HF3 := hid (show M.cmpL xs ys = 0 by rw [← hF.out, show xs.drop k = [] from List.drop_eq_nil_of_le (by rw [HXL.out]; exact Nat.le_refl _), show ys.drop k = [] from List.drop_eq_nil_of_le (by rw [HYL.out]; exact Nat.le_refl _), M.cmpL])
        clear hF
        go_wp2
        go_ret
        exact ⟨by rw [HF3.out]; rfl, by trivial⟩

/-- What a plan is sure to be worth. -/
def M.sure (f : M.Cf) (ts : List M.Tr) (plan : List Int) : Int := (M.span (ts.map fun t => M.total f t plan)).lo
/-- One plan more is looked at. -/
def M.bestS (f : M.Cf) (ts : List M.Tr) (s : List Int × Int) (x : List Int) : List Int × Int :=
  if s.2 < M.sure f ts x ∨ (M.sure f ts x = s.2 ∧ M.cmpL x s.1 < 0) then (x, M.sure f ts x) else s
def M.bestL (f : M.Cf) (ts : List M.Tr) (s : List Int × Int) (L : Nat) : List Int × Int := (M.incr (f.last + 1).toNat L 0).foldl (M.bestS f ts) s
/-- The best plan, and what it is sure to be worth. -/
def M.best (f : M.Cf) (ts : List M.Tr) : List Int × Int := (List.range (f.base.length + 1)).foldl (M.bestL f ts) ([], 0)

theorem M.rises_rise {sz : Nat} : ∀ {frm : Int} {x : List Int}, M.Rise sz frm x → M.rises x = true
  | _, [], _ => rfl
  | _, [_], _ => rfl
  | _, a :: b :: r, h => by
    obtain ⟨_, _, h3, h4, h5⟩ := h
    have := M.rises_rise (x := b :: r) (frm := a + 1) ⟨h3, h4, h5⟩
    simp only [M.rises, Bool.and_eq_true, decide_eq_true_eq]
    exact ⟨by omega, this⟩
theorem M.rise_bd {sz : Nat} : ∀ {frm : Int} {x : List Int}, M.Rise sz frm x → ∀ a ∈ x, frm ≤ a ∧ a < sz
  | _, [], _, a, ha => by simp at ha
  | frm, b :: r, h, a, ha => by
    obtain ⟨h1, h2, h3⟩ := h
    rcases List.mem_cons.1 ha with rfl | ha
    · exact ⟨h1, h2⟩
    · have := M.rise_bd h3 a ha
      omega
theorem M.incr_plan {f : M.Cf} (h9 : 0 ≤ f.last ∧ f.last ≤ 9) {L : Nat} (hL : L ≤ f.base.length) {x : List Int} (h : x ∈ M.incr (f.last + 1).toNat L 0) : M.isPlan f x = true := by
  obtain ⟨h1, h2⟩ := (M.mem_incr _ _ _ _).1 h
  have h3 := M.rises_rise h2
  have h4 := M.rise_bd h2
  unfold M.isPlan M.hasWeek
  simp only [Bool.and_eq_true, decide_eq_true_eq, List.all_eq_true]
  first
    | exact ⟨by omega, h3, fun a ha => by have := h4 a ha; omega⟩
    | exact ⟨by omega, by simpa using h3, fun a ha => by have := h4 a (by simpa using ha); constructor <;> omega⟩

/-- A plan whose cells lie from c on, and not between J and B. -/
def Pl (c J B : Nat) (W : World) (v : Value) (x : List Int) : Prop := ∃ A n d, v = .slice A n d ∧ n ≤ 10 ∧ Sl ics 1 W W.heap.size A n d x ∧ (0 < n → ∀ a, A = some a → c ≤ a.block ∧ (a.block < J ∨ B ≤ a.block))
theorem Sl.same {α : Type} {enc : α → List Value} {sz : Nat} {x y : World} {A : Option Addr} {n d : Nat} {xs : List α} (h : Sl enc sz x x.heap.size A n d xs) (hs : x.heap.size ≤ y.heap.size) (hk : 0 < n → ∀ a, A = some a → a.block < x.heap.size → y.heap[a.block]? = x.heap[a.block]?) : Sl enc sz y y.heap.size A n d xs := by
  refine ⟨h.len, h.cap, h.small, fun hn => ?_⟩
  obtain ⟨b, off, hA, hb, hc⟩ := h.cells hn
  have hb' : y.heap[b]? = x.heap[b]? := hk hn ⟨b, off, none⟩ hA hb
  exact ⟨b, off, hA, by omega, fun k z hz j v hv => (World.cell?_of_block (w := x) (a := ⟨b, off + k * sz + j, none⟩) hb').trans (hc k z hz j v hv)⟩
theorem Pl.bar {c J B : Nat} {x y : World} {v : Value} {l : List Int} (h : Pl c J B x v l) (hb : Bar J B x y) : Pl c J B y v l := by
  obtain ⟨A, n, d, rfl, hn, hs, ha⟩ := h
  exact ⟨A, n, d, rfl, hn, hs.same hb.size (fun h0 a e hl => hb.block a.block hl (by have := (ha h0 a e).2; omega)), ha⟩
theorem Pl.mo {c J B mb : Nat} {x y : World} {v : Value} {l : List Int} (h : Pl c J B x v l) (hb : Mo mb x y) (hm : mb < c) : Pl c J B y v l := by
  obtain ⟨A, n, d, rfl, hn, hs, ha⟩ := h
  exact ⟨A, n, d, rfl, hn, hs.same hb.size (fun h0 a e hl => hb.block a.block hl (fun q => by have := Option.some.inj q; have := (ha h0 a e).1; omega)), ha⟩
/-- The range begins, and has ended. -/
theorem Pl.begin {c J B : Nat} {x : World} {v : Value} {l : List Int} (h : Pl c 0 0 x v l) (hJ : x.heap.size ≤ J) : Pl c J B x v l := by
  obtain ⟨A, n, d, rfl, hn, hs, ha⟩ := h
  refine ⟨A, n, d, rfl, hn, hs, fun h0 a e => ⟨(ha h0 a e).1, .inl ?_⟩⟩
  obtain ⟨b, off, hA, hb, _⟩ := hs.cells h0
  rw [e] at hA
  cases hA
  show b < J
  omega
theorem Pl.ended {c J B : Nat} {x : World} {v : Value} {l : List Int} (h : Pl c J B x v l) : Pl c 0 0 x v l := by
  obtain ⟨A, n, d, rfl, hn, hs, ha⟩ := h
  exact ⟨A, n, d, rfl, hn, hs, fun h0 a e => ⟨(ha h0 a e).1, .inr (Nat.zero_le _)⟩⟩
/-- A plan of one's own, stored. -/
theorem Pl.own {c J B b0 : Nat} {x y : World} {A : Option Addr} {n d : Nat} {l : List Int} (h : x.ownsRow b0 3 1 (.slice A n d) n (l.flatMap ics)) (hn : n ≤ 10) (hc : c ≤ b0) (hB : B ≤ b0) (hs : x.heap.size ≤ y.heap.size) (hk : ∀ j, c ≤ j → y.heap[j]? = x.heap[j]?) : Pl c J B y (.slice A n d) l := by
  have hsl := sl_own (enc := ics) (by decide) (ics_len _) (by omega) h
  have hb : ∀ a, A = some a → b0 ≤ a.block := fun a e => (h.lt a.block (by rw [e]; rfl)).1
  exact ⟨A, n, d, rfl, hn, hsl.same hs (fun _ a e _ => hk _ (by have := hb a e; omega)), fun _ a e => ⟨by have := hb a e; omega, .inr (by have := hb a e; omega)⟩⟩
theorem Mo.bar {mb J B : Nat} {w x y : World} (h : Mo mb w x) (hb : Bar J B x y) (hJ : w.heap.size ≤ J) : Mo mb w y :=
  ⟨hb.os.trans h.os, hb.tape.trans h.tape, hb.output.trans h.output, Nat.le_trans h.size hb.size, fun j hj hn => (hb.block j (by have := h.size; omega) (by omega)).trans (h.block j hj hn)⟩
theorem def_ne {w : World} {b j D : Nat} {v : Value} {x : Option (List _)} (hb : w.cell? ⟨b, j, none⟩ = some v) (hD : w.heap[D]? = some (.deferred x)) : b ≠ D := by
  rintro rfl
  simp [World.cell?, hD] at hb
theorem Mo.below {mb : Nat} {w x y : World} (h : Mo mb w x) (hb : Below w.heap.size x y) : Mo mb w y :=
  ⟨hb.os.trans h.os, hb.tape.trans h.tape, hb.output.trans h.output, Nat.le_trans h.size hb.size, fun j hj hn => (hb.block j hj).trans (h.block j hj hn)⟩
theorem spanL_c (A : Option Addr) (n d : Nat) (l : List Int) (w : World) (hn : 0 < n) (hs : Sl ics 1 w w.heap.size A n d l) :
    Calls Try.prog 65 #[.slice A n d] w fun e w' => e = .returned (.agg #[.int .i64 (M.span l).lo, .int .i64 (M.span l).hi]) ∧ Ev w w' := by
  have hl := hs.len
  match l, hl with
  | x :: xs, hl =>
    obtain rfl : n = xs.length + 1 := by rw [← hl]; rfl
    exact span_c A xs.length d x xs w hs
  | [], hl => simp at hl; omega

end Go.Proofs.Ytffbkbcjddigdaa
