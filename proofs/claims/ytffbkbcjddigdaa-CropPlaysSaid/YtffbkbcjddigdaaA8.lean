import Derived.Test.YtffbkbcjddigdaaA7
set_option linter.unusedSimpArgs false
set_option linter.unusedVariables false
namespace Go.Proofs.Ytffbkbcjddigdaa
open Go.RowKit

def M.shows (st : List Int) (l : M.Lk) : Bool := M.holds l.ct (st.getD l.wk.toNat 0)
set_option maxRecDepth 100000 in
set_option maxHeartbeats 1000000 in
theorem shows_c (a0 a1 a2 a3 a4 a5 a6 a7 a8 a9 : Int) (l : M.Lk) (h0 : 0 ≤ l.wk) (h9 : l.wk ≤ 9) (w : World) :
    Calls Try.prog 90 #[.agg #[.int .i64 a0, .int .i64 a1, .int .i64 a2, .int .i64 a3, .int .i64 a4, .int .i64 a5, .int .i64 a6, .int .i64 a7, .int .i64 a8, .int .i64 a9], .agg #[.int .i64 l.wk, .int .i64 l.ct.lo, .int .i64 l.ct.hi]] w fun e w' => e = .returned (.bool (M.shows [a0, a1, a2, a3, a4, a5, a6, a7, a8, a9] l)) ∧ Ev w w' := by
  obtain ⟨k, hk⟩ := Int.eq_ofNat_of_zero_le h0
  have HD := hid (show M.shows [a0, a1, a2, a3, a4, a5, a6, a7, a8, a9] l = M.holds l.ct ([a0, a1, a2, a3, a4, a5, a6, a7, a8, a9].getD k 0) by unfold M.shows; rw [hk]; rfl)
  have hk10 : k < 10 := by omega
  have hx : [a0, a1, a2, a3, a4, a5, a6, a7, a8, a9][k]? = some ([a0, a1, a2, a3, a4, a5, a6, a7, a8, a9].getD k 0) := by
    rw [List.getD_eq_getElem?_getD, List.getElem?_eq_getElem (by simpa using hk10)]; rfl
  generalize [a0, a1, a2, a3, a4, a5, a6, a7, a8, a9].getD k 0 = x at hx HD
  have HH := hid (fun W => holds_e l.ct x W)
  have hxa : (#[.int .i64 a0, .int .i64 a1, .int .i64 a2, .int .i64 a3, .int .i64 a4, .int .i64 a5, .int .i64 a6, .int .i64 a7, .int .i64 a8, .int .i64 a9] : Array Value)[k]? = some (.int .i64 x) := by
    have : (#[.int .i64 a0, .int .i64 a1, .int .i64 a2, .int .i64 a3, .int .i64 a4, .int .i64 a5, .int .i64 a6, .int .i64 a7, .int .i64 a8, .int .i64 a9] : Array Value) = ([a0, a1, a2, a3, a4, a5, a6, a7, a8, a9].map (Value.int .i64)).toArray := rfl
    rw [this]; simp only [List.getElem?_toArray, List.getElem?_map, hx]; rfl
  rw [hk]
  have k10 : (k : Int) < 10 := by omega
  have k0 : (0 : Int) ≤ k := by omega
  have HX := hid hxa
  clear hx hxa hk h0 h9
  go_enter Try.func90, Try.ntmps90
  go_upto_region 1 with fail
  generalize hW0 : World.alloc _ _ = W0
  have hal := alloc2 w (.cells #[.int .i64 a0, .int .i64 a1, .int .i64 a2, .int .i64 a3, .int .i64 a4, .int .i64 a5, .int .i64 a6, .int .i64 a7, .int .i64 a8, .int .i64 a9] 111) (.cells #[.int .i64 k, .int .i64 l.ct.lo, .int .i64 l.ct.hi] 73)
  have hE0 : Ev w W0 := by rw [← hW0]; exact Ev.alloc (Ev.alloc (Ev.refl _) _) _
  rw [hW0] at hal
  have c0 := (cell_in hal.1 k).trans HX.out
  obtain ⟨y0, y1, y2⟩ := cells3 hal.2.1
  have l1 := heap_lt hal.1
  have l2 := heap_lt hal.2.1
  have HSE : Hid (∀ w', Ev W0 w' → Ev W0 w' ∧ (∀ o, w'.cell? ⟨w.heap.size, o, none⟩ = W0.cell? ⟨w.heap.size, o, none⟩) ∧ (∀ o, w'.cell? ⟨w.heap.size + 1, o, none⟩ = W0.cell? ⟨w.heap.size + 1, o, none⟩)) := hid (fun w' h => ⟨h, fun o => h.cells.1 _ o l1, fun o => h.cells.1 _ o l2⟩)
  clear hW0 hal
  go_region_held3 (fun w' => Ev W0 w' ∧ (∀ o, w'.cell? ⟨w.heap.size, o, none⟩ = W0.cell? ⟨w.heap.size, o, none⟩) ∧ (∀ o, w'.cell? ⟨w.heap.size + 1, o, none⟩ = W0.cell? ⟨w.heap.size + 1, o, none⟩)) (exact HSE.out _ (by repeat (first | with_reducible exact Ev.refl W0 | (with_reducible assumption) | with_reducible refine Ev.drew ?_))) (first | (go_at_call 83; ((with_reducible refine (HH.out _).mono ?_); rintro e w1 ⟨rfl, hb1⟩; have hc1 : Ev W0 w1 := (by first | exact hb1 | exact Ev.trans (Ev.drew (Ev.refl _)) hb1))))
  go_wp2
  go_ret
  exact ⟨ret_bool HD.out.symm, hE0.trans (by first | exact hc1 | exact Ev.drew hc1)⟩

set_option maxRecDepth 100000 in
set_option maxHeartbeats 1000000 in
theorem allShows_c (a0 a1 a2 a3 a4 a5 a6 a7 a8 a9 : Int) (A : Option Addr) (n c : Nat) (xs : List M.Lk) (hxs : ∀ l ∈ xs, 0 ≤ l.wk ∧ l.wk ≤ 9) (w : World) (hs : Sl lkc 3 w w.heap.size A n c xs) :
    Calls Try.prog 89 #[.slice A n c, .func (.func 90) #[.agg #[.int .i64 a0, .int .i64 a1, .int .i64 a2, .int .i64 a3, .int .i64 a4, .int .i64 a5, .int .i64 a6, .int .i64 a7, .int .i64 a8, .int .i64 a9]] #[]] w fun e w' => e = .returned (.bool (xs.all (M.shows [a0, a1, a2, a3, a4, a5, a6, a7, a8, a9]))) ∧ Ev w w' := by
  have hsm := hs.small
  have HXS := hid hxs
  clear hxs
  go_enter Try.func89, Try.ntmps89
  go_wp2
  go_loopw [9] (fun i wr => ∃ k : Nat, i = .int .i64 k ∧ k ≤ n ∧ Ev w wr ∧ Hid ((xs.drop k).all (M.shows [a0, a1, a2, a3, a4, a5, a6, a7, a8, a9]) = xs.all (M.shows [a0, a1, a2, a3, a4, a5, a6, a7, a8, a9]))) (fun i _ => n - (intOf i).toNat)
  case atStart => exact ⟨0, rfl, by omega, Ev.refl _, hid rfl⟩
  case round =>
    obtain ⟨k, rfl, hk, hB, hall⟩ := hrel
    by_cases hlt : k < n
    · obtain ⟨b, off, x, rfl, hb, hx, hd, hcc⟩ := hs.at_ hB hlt
      have e0 := hcc 0 _ rfl
      have e1 := hcc 1 _ rfl
      have e2 := hcc 2 _ rfl
      simp only [Nat.add_zero] at e0
      have hcap := hs.cap
      have H := hid hd
      have hw2 := HXS.out x (List.mem_of_getElem? hx)
      clear hd hx hcc
      have hcon := fun W => shows_c a0 a1 a2 a3 a4 a5 a6 a7 a8 a9 x hw2.1 hw2.2 W
      cases hv : M.shows [a0, a1, a2, a3, a4, a5, a6, a7, a8, a9] x with
      | true =>
        rw [hv] at hcon
        have HC := hid hcon
        have HV := hid hv
        clear hcon hv hw2
        go_wp2_with (go_at_call 90; with_reducible refine (HC.out _).mono ?_; rintro e w1 ⟨rfl, hb1⟩)
        refine ⟨⟨k + 1, by go_num, by omega, by first | exact hB.trans hb1 | exact hB.trans (Ev.trans (Ev.alloc (Ev.refl _) _) hb1), ?_⟩, by simp [intOf]; omega⟩
        exact hid (by rw [← hall.out, H.out, List.all_cons, HV.out, Bool.true_and])
      | false =>
        rw [hv] at hcon
        have HC := hid hcon
        have HV := hid hv
        clear hcon hv hw2
        go_wp2_with (go_at_call 90; with_reducible refine (HC.out _).mono ?_; rintro e w1 ⟨rfl, hb1⟩)
        go_ret
        exact ⟨ret_bool (by rw [← hall.out, H.out, List.all_cons, HV.out, Bool.false_and]), by first | exact hB.trans hb1 | exact hB.trans (Ev.trans (Ev.alloc (Ev.refl _) _) hb1)⟩
    · have H := hid (hs.done hlt)
      go_wp2
      go_ret
      exact ⟨ret_bool (by rw [← hall.out, H.out]; rfl), hB⟩

set_option maxRecDepth 100000 in
set_option maxHeartbeats 1000000 in
theorem showsAll_c (a0 a1 a2 a3 a4 a5 a6 a7 a8 a9 : Int) (A : Option Addr) (n c : Nat) (xs : List M.Lk) (hxs : ∀ l ∈ xs, 0 ≤ l.wk ∧ l.wk ≤ 9) (w : World) (hs : Sl lkc 3 w w.heap.size A n c xs) :
    Calls Try.prog 59 #[.agg #[.int .i64 a0, .int .i64 a1, .int .i64 a2, .int .i64 a3, .int .i64 a4, .int .i64 a5, .int .i64 a6, .int .i64 a7, .int .i64 a8, .int .i64 a9], .slice A n c] w fun e w' => e = .returned (.bool (xs.all (M.shows [a0, a1, a2, a3, a4, a5, a6, a7, a8, a9]))) ∧ Ev w w' := by
  have HA := hid (fun W (hE : Ev w W) => allShows_c a0 a1 a2 a3 a4 a5 a6 a7 a8 a9 A n c xs hxs W (hs.ev hE))
  generalize xs.all (M.shows [a0, a1, a2, a3, a4, a5, a6, a7, a8, a9]) = r at HA
  clear hs hxs
  go_enter Try.func59, Try.ntmps59
  go_wp2_with (go_at_call 89; with_reducible refine (HA.out _ (Ev.alloc (Ev.refl _) _)).mono ?_; rintro e w1 ⟨rfl, hb1⟩)
  go_ret
  exact ⟨rfl, Ev.trans (Ev.alloc (Ev.refl _) _) hb1⟩

end Go.Proofs.Ytffbkbcjddigdaa
