import Derived.Test.YtcecmphdmpeibaaL8
set_option linter.unusedSimpArgs false
set_option linter.unusedVariables false
namespace Go.Proofs.Ytcecmphdmpeibaa
open Go.RowKit

/-- The reference's start: a range without any number. -/
def M.big : Int := 1099511627776
theorem M.big_bd : M.big = 1099511627776 := rfl

set_option maxHeartbeats 400000 in
theorem Empty_c (w : World) : Calls Try.prog 77 #[] w fun e w' => e = .returned (.agg #[.int .i64 M.big, .int .i64 (-M.big)]) ∧ Ev w w' := by
  go_enter Try.func77, Try.ntmps77
  go_wp2
  refine bodyPost_ret (v := .agg #[.int .i64 M.big, .int .i64 (-M.big)]) (by simp [results, Try.results77, go_sem]; rfl) rfl ⟨rfl, ?_⟩
  all_goals (repeat first | exact Ev.refl _ | refine Ev.alloc ?_ _ | refine Ev.setCell ?_ (by simp) _)

def M.wider (r : M.Rg) (n : Int) : M.Rg := ⟨if n < r.lo then n else r.lo, if r.hi < n then n else r.hi⟩

set_option maxHeartbeats 400000 in
theorem Wider_c (r : M.Rg) (n : Int) (w : World) : Calls Try.prog 78 #[.agg #[.int .i64 r.lo, .int .i64 r.hi], .int .i64 n] w fun e w' => e = .returned (.agg #[.int .i64 (M.wider r n).lo, .int .i64 (M.wider r n).hi]) ∧ Ev w w' := by
  go_enter Try.func78, Try.ntmps78
  go_wp2
  all_goals (refine bodyPost_ret (v := .agg #[.int .i64 (M.wider r n).lo, .int .i64 (M.wider r n).hi]) (by simp [results, Try.results78, go_sem, M.wider] <;> omega) rfl ⟨rfl, ?_⟩)
  all_goals (repeat first | exact Ev.refl _ | refine Ev.alloc ?_ _ | refine Ev.setCell ?_ (by simp) _)

theorem cells2 {W : World} {b : Nat} {t : TypeId} {v0 v1 : Value} (h : W.heap[b]? = some (.cells #[v0, v1] t (0, 0))) : W.cell? ⟨b, 0, none⟩ = some v0 ∧ W.cell? ⟨b, 1, none⟩ = some v1 :=
  ⟨cell_in h 0, cell_in h 1⟩
theorem frz2 {W : World} {b : Nat} {cs : Array Value} {t : TypeId} (h : W.heap[b]? = some (.cells cs t (0, 0))) : W.frozen? ⟨b, 0, none⟩ = false ∧ W.frozen? ⟨b, 1, none⟩ = false :=
  ⟨frozen_in h 0, frozen_in h 1⟩

/-- How many rows of a whole list somebody did. -/
def M.rnum (x : Int) (t : List Int) : Int := M.count t x 0 ((t.length : Int) - 1)
def M.widen (r : M.Rg) : List Int → M.Rg
  | [] => r
  | n :: l => M.widen (M.wider r n) l
/-- The bounds of a weeder's rows, by the reference. -/
def M.rdone (x : Int) (l : List (List Int)) : M.Rg := M.widen ⟨M.big, -M.big⟩ (l.map (M.rnum x))

theorem cell_set_ne {w : World} {p q : Addr} {v : Value} (h : q.block ≠ p.block) : (w.setCell p v).cell? q = w.cell? q := World.cell?_of_block (Below.heap_setCell _ _ _ _ h)
theorem hs_nil {w : World} {A : Option Addr} {n c : Nat} {l : List (List Int)} (hl : LL w A n c l) {k : Nat} (hk : ¬ k < n) : l.drop k = [] := List.drop_eq_nil_of_le (by rw [hl.len]; omega)

set_option maxRecDepth 100000 in
set_option maxHeartbeats 2000000 in
theorem rDone_c (x : Int) (A : Option Addr) (n c : Nat) (l : List (List Int)) (h1 : ∀ t ∈ l, 0 < t.length) (w : World) (hl : LL w A n c l) :
    Calls Try.prog 31 #[.slice A n c, .int .i64 x] w fun e w' => e = .returned (.agg #[.int .i64 (M.rdone x l).lo, .int .i64 (M.rdone x l).hi]) ∧ Ev w w' := by
  have hsm := hl.small
  go_enter Try.func31, Try.ntmps31
  go_wp2_with (go_at_call 77; ((with_reducible refine (Empty_c _).mono ?_); rintro e w1 ⟨rfl, hb1⟩))
  have HQ := hid (hb1.heap (alloc1 w (.cells #[.int .i64 0, .int .i64 0] 23)).1)
  have hE1 : Ev w w1 := Ev.trans (Ev.alloc (Ev.refl _) _) hb1
  have hlq := heap_lt HQ.out
  generalize hW0 : World.alloc w1 _ = W0
  have hE0 : Ev w1 W0 := by rw [← hW0]; exact Ev.alloc (Ev.refl _) _
  have HC0 : Hid (W0.heap[w1.heap.size]? = some (.cells #[.int .i64 M.big, .int .i64 (-M.big)] 23 (0, 0))) := by rw [← hW0]; exact (alloc1 w1 _).1
  clear hW0
  have hz1 : w.heap.size < w1.heap.size := hlq
  clear hlq
  go_loopw [6] (fun i wr => ∃ k : Nat, ∃ r : M.Rg, i = .int .i64 k ∧ k ≤ n ∧ Ev w wr ∧ Hid (wr.heap[w.heap.size]? = some (.cells #[.int .i64 0, .int .i64 0] 23 (0, 0))) ∧ Hid (wr.heap[w1.heap.size]? = some (.cells #[.int .i64 r.lo, .int .i64 r.hi] 23 (0, 0))) ∧ Hid (M.widen r ((l.drop k).map (M.rnum x)) = M.rdone x l)) (fun i _ => n - (intOf i).toNat)
  case atStart => exact ⟨0, ⟨M.big, -M.big⟩, rfl, by omega, hE1.trans hE0, hid (hE0.heap HQ.out), HC0, hid rfl⟩
  case round =>
    obtain ⟨k, r, rfl, hk, hB, hQ, hC, hW⟩ := hrel
    by_cases hlt : k < n
    · obtain ⟨b, off, t, B, m, d, rfl, hb, hx, hd, e0, hrow⟩ := hl.at_ hB hlt
      have hm := h1 t (List.mem_of_getElem? hx)
      have hmlen := (hrow.sl).len
      have hmsm := hrow.2
      have H := hid hd
      have HLEN := hid (show (t.length : Int) = (m : Int) by rw [hmlen])
      have hm0 : 0 < m := by have e : t.length = m := hmlen; omega
      have hms : m ≤ 1099511627776 := hmsm
      have hdid := fun W (hE : Ev wr W) => Did_s B m d t x 0 ((m : Int) - 1) (by omega) (by omega) (by omega) W ((hrow.ev hB).ev hE).sl
      have HDID := hid hdid
      have HSE : Hid (∀ w', Ev wr w' → ∀ o, w'.cell? ⟨b, o, none⟩ = wr.cell? ⟨b, o, none⟩) := hid (fun w' h o => h.cells.1 _ o (by have := hB.size; omega))
      have s1 : IntKind.i64.wrap ((m : Int) - 1) = (m : Int) - 1 := IntWalk.i64_in _ (by omega)
      obtain ⟨p0, p1⟩ := cells2 hC.out
      obtain ⟨f0, f1⟩ := frz2 hC.out
      clear hmlen hm hx hd hdid hmsm
      have hbl : b < wr.heap.size := by have := hB.size; omega
      go_wp2_with fail
      · skip
        refine wp_region_held_drew (S := fun w' => ∀ o, w'.cell? ⟨b, o, none⟩ = wr.cell? ⟨b, o, none⟩) (by kernel_rfl) (fun o => rfl) (fun hHeld => ?_)
        refine wpAnyH_take (i := 1) (v := ?_) rfl (by kernel_rfl) (by kernel_rfl) (by kernel_rfl) (fun _ _ _ h => h) (Or.inl ⟨by rfl, ?hy⟩) (by assumption) ?_
        case hy => (intro w hSw; (try dsimp only at hSw); go_simp; with_reducible rfl)
        (try simp only [Act.put, List.setIfInBounds_toArray, List.set_cons_zero, List.set_cons_succ])
        refine wpAnyH_take (i := 2) (v := ?_) rfl (by kernel_rfl) (by kernel_rfl) (by kernel_rfl) (fun _ _ _ h => h) (Or.inl ⟨by rfl, ?hy⟩) (by assumption) ?_
        case hy => (intro w hSw; (try dsimp only at hSw); go_simp; with_reducible rfl)
        (try simp only [Act.put, List.setIfInBounds_toArray, List.set_cons_zero, List.set_cons_succ])
        refine wpAnyH_take (i := 3) (v := ?_) rfl (by kernel_rfl) (by kernel_rfl) (by kernel_rfl) (fun _ _ _ h => h) (Or.inl ⟨by rfl, ?hy⟩) (by assumption) ?_
        case hy => (intro w hSw; (try dsimp only at hSw); go_simp; with_reducible rfl)
        (try simp only [Act.put, List.setIfInBounds_toArray, List.set_cons_zero, List.set_cons_succ])
        refine wpAnyH_take (i := 4) (v := ?_) rfl (by kernel_rfl) (by kernel_rfl) (by kernel_rfl) (fun _ _ _ h => h) (Or.inl ⟨by rfl, ?hy⟩) (by assumption) ?_
        case hy => (intro w hSw; (try dsimp only at hSw); go_simp; with_reducible rfl)
        (try simp only [Act.put, List.setIfInBounds_toArray, List.set_cons_zero, List.set_cons_succ])
        refine wpAnyH_take (i := 5) (v := ?_) rfl (by kernel_rfl) (by kernel_rfl) (by kernel_rfl) (fun _ _ _ h => h) (Or.inl ⟨by rfl, ?hy⟩) (by assumption) ?_
        case hy => (intro w hSw; (try dsimp only at hSw); go_simp; with_reducible rfl)
        (try simp only [Act.put, List.setIfInBounds_toArray, List.set_cons_zero, List.set_cons_succ])
        refine wpAnyH_take (i := 6) (v := ?_) rfl (by kernel_rfl) (by kernel_rfl) (by kernel_rfl) (fun _ _ _ h => h) (Or.inl ⟨by rfl, ?hy⟩) (by assumption) ?_
        case hy => (intro w hSw; (try dsimp only at hSw); go_simp; with_reducible rfl)
        (try simp only [Act.put, List.setIfInBounds_toArray, List.set_cons_zero, List.set_cons_succ])
        refine wpAnyH_take (i := 7) (v := ?_) rfl (by kernel_rfl) (by kernel_rfl) (by kernel_rfl) (fun _ _ _ h => h) (Or.inl ⟨by rfl, ?hy⟩) (by assumption) ?_
        case hy => (intro w hSw; (try dsimp only at hSw); go_simp; with_reducible rfl)
        (try simp only [Act.put, List.setIfInBounds_toArray, List.set_cons_zero, List.set_cons_succ])
        refine wpAnyH_take (i := 8) (v := ?_) rfl (by kernel_rfl) (by kernel_rfl) (by kernel_rfl) (fun _ _ _ h => h) (Or.inl ⟨by rfl, ?hy⟩) (by assumption) ?_
        case hy => (intro w hSw; (try dsimp only at hSw); go_simp; with_reducible rfl)
        (try simp only [Act.put, List.setIfInBounds_toArray, List.set_cons_zero, List.set_cons_succ])
        refine wpAnyH_take (i := 9) (v := ?_) rfl (by kernel_rfl) (by kernel_rfl) (by kernel_rfl) (fun _ _ _ h => h) (Or.inl ⟨by rfl, ?hy⟩) (by assumption) ?_
        case hy => (intro w hSw; (try dsimp only at hSw); go_simp; with_reducible rfl)
        (try simp only [Act.put, List.setIfInBounds_toArray, List.set_cons_zero, List.set_cons_succ])
        refine wpAnyH_take (i := 10) (v := ?_) rfl (by kernel_rfl) (by kernel_rfl) (by kernel_rfl) (fun _ _ _ h => h) (Or.inl ⟨by rfl, ?hy⟩) (by assumption) ?_
        case hy => (intro w hSw; (try dsimp only at hSw); go_simp; with_reducible rfl)
        (try simp only [Act.put, List.setIfInBounds_toArray, List.set_cons_zero, List.set_cons_succ])
        refine wpAnyH_take (i := 11) (v := ?_) rfl (by kernel_rfl) (by kernel_rfl) (by kernel_rfl) (fun _ _ _ h => h) (Or.inl ⟨by rfl, ?hy⟩) (by assumption) ?_
        case hy => (intro w hSw; (try dsimp only at hSw); go_simp; with_reducible rfl)
        (try simp only [Act.put, List.setIfInBounds_toArray, List.set_cons_zero, List.set_cons_succ])
        refine wpAnyH_ready (rs := [0, 12]) (by kernel_rfl) (by simp) ?_
        refine AllReadyH.cons rfl (fun K hK => ?_) (AllReadyH.cons rfl (fun K hK => ?_) AllReadyH.nil)
        · go_simp
          refine hK.out _ _ (fun o => rfl) (fun hHeld => ?_)
          clear hK K
          (try simp only [Act.put, List.setIfInBounds_toArray, List.set_cons_zero, List.set_cons_succ])
          refine wpAnyH_ready (rs := [12]) (by kernel_rfl) (by simp) ?_
          refine AllReadyH.cons rfl (fun K hK => ?_) AllReadyH.nil
          go_simp
          refine (HDID.out _ (Ev.drew (Ev.refl _))).mono ?_
          rintro e w2 ⟨rfl, rfl⟩
          refine hK.out _ _ (fun o => rfl) (fun hHeld => ?_)
          clear hK K
          (try simp only [Act.put, List.setIfInBounds_toArray, List.set_cons_zero, List.set_cons_succ])
          refine wpAnyH_ready (rs := [13]) (by kernel_rfl) (by simp) ?_
          refine AllReadyH.cons rfl (fun K hK => ?_) AllReadyH.nil
          clear p0 p1 f0 f1
          go_simp
          refine (Wider_c r _ _).mono ?_
          rintro e w3 ⟨rfl, hb3⟩
          obtain ⟨p0, p1⟩ := cells2 (hb3.heap hC.out)
          obtain ⟨f0, f1⟩ := frz2 (hb3.heap hC.out)
          refine hK.out _ _ (HSE.out _ (Ev.trans (Ev.drew (Ev.refl _)) hb3)) (fun hHeld => ?_)
          clear hK K
          (try simp only [Act.put, List.setIfInBounds_toArray, List.set_cons_zero, List.set_cons_succ])
          refine wpAnyH_ready (rs := [14]) (by kernel_rfl) (by simp) ?_
          refine AllReadyH.cons rfl (fun K hK => ?_) AllReadyH.nil
          go_simp
          refine hK.out _ _ (fun o => (cell_set_ne (by simp; omega)).trans ((cell_set_ne (by simp; omega)).trans (HSE.out _ (Ev.trans (Ev.drew (Ev.refl _)) hb3) o))) (fun hHeld => ?_)
          clear hK K
          (try simp only [Act.put, List.setIfInBounds_toArray, List.set_cons_zero, List.set_cons_succ])
          refine wpAnyH_done (by kernel_rfl) ?_ _
          go_wp2
          refine ⟨⟨k + 1, M.wider r (M.count t x 0 ((m : Int) - 1)), by go_num, by omega, ?_, ?_, ?_, hid ?_⟩, by simp [intOf]; omega⟩
          · exact Ev.setCell (Ev.setCell (hB.trans (Ev.trans (Ev.drew (Ev.refl _)) hb3)) (by simp; omega) _) (by simp; omega) _
          · exact hid (set_heap (set_heap (hb3.heap hQ.out) (by simp; omega)) (by simp; omega))
          · refine hid ?_
            rw [set_heap_same (set_heap_same (hb3.heap hC.out))]
            rfl
          · rw [← hW.out, H.out, List.map_cons, M.widen, M.rnum, HLEN.out]
        · go_simp
          refine (HDID.out _ (Ev.drew (Ev.refl _))).mono ?_
          rintro e w2 ⟨rfl, rfl⟩
          refine hK.out _ _ (fun o => rfl) (fun hHeld => ?_)
          clear hK K
          (try simp only [Act.put, List.setIfInBounds_toArray, List.set_cons_zero, List.set_cons_succ])
          refine wpAnyH_ready (rs := [0]) (by kernel_rfl) (by simp) ?_
          refine AllReadyH.cons rfl (fun K hK => ?_) AllReadyH.nil
          go_simp
          refine hK.out _ _ (fun o => rfl) (fun hHeld => ?_)
          clear hK K
          (try simp only [Act.put, List.setIfInBounds_toArray, List.set_cons_zero, List.set_cons_succ])
          refine wpAnyH_ready (rs := [13]) (by kernel_rfl) (by simp) ?_
          refine AllReadyH.cons rfl (fun K hK => ?_) AllReadyH.nil
          clear p0 p1 f0 f1
          go_simp
          refine (Wider_c r _ _).mono ?_
          rintro e w3 ⟨rfl, hb3⟩
          obtain ⟨p0, p1⟩ := cells2 (hb3.heap hC.out)
          obtain ⟨f0, f1⟩ := frz2 (hb3.heap hC.out)
          refine hK.out _ _ (HSE.out _ (Ev.trans (Ev.drew (Ev.refl _)) hb3)) (fun hHeld => ?_)
          clear hK K
          (try simp only [Act.put, List.setIfInBounds_toArray, List.set_cons_zero, List.set_cons_succ])
          refine wpAnyH_ready (rs := [14]) (by kernel_rfl) (by simp) ?_
          refine AllReadyH.cons rfl (fun K hK => ?_) AllReadyH.nil
          go_simp
          refine hK.out _ _ (fun o => (cell_set_ne (by simp; omega)).trans ((cell_set_ne (by simp; omega)).trans (HSE.out _ (Ev.trans (Ev.drew (Ev.refl _)) hb3) o))) (fun hHeld => ?_)
          clear hK K
          (try simp only [Act.put, List.setIfInBounds_toArray, List.set_cons_zero, List.set_cons_succ])
          refine wpAnyH_done (by kernel_rfl) ?_ _
          go_wp2
          refine ⟨⟨k + 1, M.wider r (M.count t x 0 ((m : Int) - 1)), by go_num, by omega, ?_, ?_, ?_, hid ?_⟩, by simp [intOf]; omega⟩
          · exact Ev.setCell (Ev.setCell (hB.trans (Ev.trans (Ev.drew (Ev.refl _)) hb3)) (by simp; omega) _) (by simp; omega) _
          · exact hid (set_heap (set_heap (hb3.heap hQ.out) (by simp; omega)) (by simp; omega))
          · refine hid ?_
            rw [set_heap_same (set_heap_same (hb3.heap hC.out))]
            rfl
          · rw [← hW.out, H.out, List.map_cons, M.widen, M.rnum, HLEN.out]
    · have hN := hs_nil hl hlt
      have hw := hW.out
      rw [hN] at hw
      have HW := hid hw
      clear hN hw
      obtain ⟨p0, p1⟩ := cells2 hC.out
      obtain ⟨o0, o1⟩ := cells2 hQ.out
      obtain ⟨f0, f1⟩ := frz2 hQ.out
      go_wp2
      refine bodyPost_ret (v := .agg #[.int .i64 r.lo, .int .i64 r.hi]) (by simp [results, Try.results31, go_sem, o0, o1]) rfl ⟨?_, ?_⟩
      · rw [← HW.out]; rfl
      · exact Ev.setCell (Ev.setCell hB (by simp) _) (by simp) _

end Go.Proofs.Ytcecmphdmpeibaa
