import Derived.Test.YtcecmphdmpeibaaL4
import Derived.Test.YtcecmphdmpeibaaU2
namespace Go.Proofs.Ytcecmphdmpeibaa
open Go.RowKit

/-- The list with a number, of r rows, to the base D. -/
def M.nthK (D : Nat) : Nat → Nat → List Int
  | 0, _ => []
  | r + 1, n => (((n % D : Nat) : Int) - 1) :: M.nthK D r (n / D)
theorem M.nthK_len (D : Nat) : ∀ r n, (M.nthK D r n).length = r
  | 0, _ => rfl
  | r + 1, n => by rw [M.nthK, List.length_cons, M.nthK_len D r]

theorem own0 {w : World} {base : Nat} {e : TypeId} {size : Nat} {v : Value} {n : Nat} {xs : List Value} (h : w.ownsRow base e size v n xs) : w.ownsRow 0 e size v n xs := by
  refine ⟨h.1, ?_⟩
  rcases h.2 with hn | ⟨g, cap, cur, rfl, _, rest⟩
  · exact .inl hn
  · exact .inr ⟨g, cap, cur, rfl, Nat.zero_le _, rest⟩

set_option maxRecDepth 100000 in
set_option maxHeartbeats 2000000 in
theorem Nth_k (r D : Nat) (hr : r ≤ 7) (hD : D ≤ 3) (nn : Nat) (hnn : nn ≤ 16384) (lo hi : Int) (A : Option Addr) (n c : Nat) (w : World) :
    Calls Try.prog 95 #[.agg #[.int .i64 r, .int .i64 D, .int .i64 lo, .int .i64 hi, .slice A n c], .int .i64 nn] w fun e w' => (∃ B d, e = .returned (.slice B r d) ∧ w'.ownsRow 0 3 1 (.slice B r d) r ((M.nthK (D + 1) r nn).flatMap ics)) ∧ Ev w w' := by
  obtain ⟨i0, hi0, hz0, hz1, hz2⟩ := info_parts info3
  have s1 : IntKind.i64.wrap ((D : Int) + 1) = (D : Int) + 1 := IntWalk.i64_in _ (by omega)
  go_enter Try.func95, Try.ntmps95
  go_wp2
  generalize hW0 : World.alloc w _ = W0
  have hE0 : Ev w W0 := by rw [← hW0]; exact Ev.alloc (Ev.refl _) _
  have hal := alloc1 w (.cells #[.int .i64 r, .int .i64 D, .int .i64 lo, .int .i64 hi, .slice A n c] 26)
  rw [hW0] at hal
  have Q0 := hid hal.1
  clear hal hW0
  go_loopw [1, 5, 6] (fun nv v i wr => ∃ k m : Nat, ∃ pre : List Int, nv = .int .i64 m ∧ i = .int .i64 k ∧ k ≤ r ∧ m ≤ 16384 ∧ Ev w wr ∧ Hid (wr.heap[w.heap.size]? = some (.cells #[.int .i64 r, .int .i64 D, .int .i64 lo, .int .i64 hi, .slice A n c] 26 (0, 0))) ∧ wr.ownsRow (w.heap.size + 1) 3 1 v k (pre.flatMap ics) ∧ Hid (pre ++ M.nthK (D + 1) (r - k) m = M.nthK (D + 1) r nn)) (fun _ _ i _ => r - (intOf i).toNat)
  case atStart => exact ⟨0, nn, [], rfl, rfl, by omega, hnn, hE0, Q0, World.ownsRow_nil _ _ _ _, hid rfl⟩
  case round =>
    obtain ⟨k, m, pre, rfl, rfl, hk, hm, hB, hQ, hown, hpre⟩ := hrel
    obtain ⟨q0, q1, q2, q3, q4⟩ := cells5 hQ.out
    have hlq := heap_lt hQ.out
    by_cases hlt : k < r
    · have hq0 : 0 ≤ m % (D + 1) := Nat.zero_le _
      have hq1 : m % (D + 1) < D + 1 := Nat.mod_lt _ (by omega)
      have hd1 : m / (D + 1) ≤ m := Nat.div_le_self _ _
      have e1 : (m : Int) % ((D : Int) + 1) = ((m % (D + 1) : Nat) : Int) := by simp
      have e2 : (m : Int) / ((D : Int) + 1) = ((m / (D + 1) : Nat) : Int) := by simp
      have e3 : (m : Int).tmod ((D : Int) + 1) = ((m % (D + 1) : Nat) : Int) := by rw [Int.tmod_eq_emod_of_nonneg (by omega)]; exact e1
      have e4 : (m : Int).tdiv ((D : Int) + 1) = ((m / (D + 1) : Nat) : Int) := by rw [Int.tdiv_eq_ediv_of_nonneg (by omega)]; exact e2
      have hpre2 : pre ++ [((m % (D + 1) : Nat) : Int) - 1] ++ M.nthK (D + 1) (r - (k + 1)) (m / (D + 1)) = M.nthK (D + 1) r nn := by
        rw [← hpre.out, List.append_assoc, show r - k = (r - (k + 1)) + 1 from by omega]
        rfl
      have HP2 := hid hpre2
      generalize m % (D + 1) = q at hq0 hq1 e1 e3 HP2
      generalize m / (D + 1) = d at hd1 e2 e4 HP2
      have s2 : IntKind.i64.wrap ((q : Int) - 1) = (q : Int) - 1 := IntWalk.i64_in _ (by omega)
      have z0 : (0 : Int) ≤ m := by omega
      have z1 : (0 : Int) < (D : Int) + 1 := by omega
      have z2 : ((D : Int) + 1 == 0) = false := by simp; omega
      have z3 : ¬ ((D : Int) + 1 = 0) := by omega
      have z4 : (0 : Int) ≤ (D : Int) + 1 := by omega
      have z5 : (m : Int) ≤ 16384 := by omega
      have s3 : IntKind.i64.wrap (d : Int) = (d : Int) := IntWalk.i64_in _ (by omega)
      have hzw : w.heap.size + 1 ≤ wr.heap.size := by omega
      have hlt1 := hown.lt
      have HSE : Hid (∀ w', Ev wr w' → Below (w.heap.size + 1) wr w' ∧ (∀ o, w'.cell? ⟨w.heap.size, o, none⟩ = wr.cell? ⟨w.heap.size, o, none⟩)) := hid (fun w' h => ⟨Below.evr h hzw, fun o => h.cells.1 _ o (by omega)⟩)
      have HGR : Hid (∀ w' w3, Ev wr w' → w'.grownBy w3 u5.ownBlock → Below (w.heap.size + 1) wr w3 ∧ (∀ o, w3.cell? ⟨w.heap.size, o, none⟩ = wr.cell? ⟨w.heap.size, o, none⟩)) := hid (fun w' w3 h hg => by
        have hs := h.size
        have hB3 : Below (w.heap.size + 1) wr w3 := Below.grown (Below.evr h hzw) hg (by omega) (fun k hk => (hlt1 k hk).1)
        exact ⟨hB3, fun o => hB3.cell (p := ⟨w.heap.size, o, none⟩) (by simp)⟩)
      have hlt2 := hid hlt1
      clear hlt1 hpre2
      go_wp2_with fail
      go_region_held3 (fun w' => Below (w.heap.size + 1) wr w' ∧ (∀ o, w'.cell? ⟨w.heap.size, o, none⟩ = wr.cell? ⟨w.heap.size, o, none⟩)) (first | (with_reducible exact hP3) | (exact HSE.out _ (by repeat (first | with_reducible exact Ev.refl wr | (with_reducible assumption) | with_reducible refine Ev.drew ?_ | with_reducible refine Ev.alloc ?_ _)))) (first | (refine step_append_own rfl (.tmp 13) (.tmp 20) 27 rfl (w.heap.size + 1) 3 i0 _ 1 8 Try.underlying27 hi0 hz0 hz1 hz2 rfl (by decide) _ k (pre.flatMap ics) rfl (hown.ev (Ev.drew (Ev.alloc (Ev.refl _) _))) ⟨wr.heap.size, 0, none⟩ 1 1 [.int .i64 ((q : Int) - 1)] rfl rfl (news_in (alloc1 wr (.cells #[.int .i64 ((q : Int) - 1)] 3)).1) (by simp [Value.oneCell']) (by unfold maxLen; omega) (by omega) (by simp; omega) ?_; intro v' w3 hown' hgrow _; have hP3 := HGR.out _ _ (Ev.drew (Ev.alloc (Ev.refl _) _)) hgrow))
      clear e1 e2 e3 e4 s2 s3 z1 z2 z3 z4
      go_wp2
      have hE3 := Ev.grown (hB.trans (Ev.drew (Ev.alloc (Ev.refl _) _))) hgrow (fun k e => by have := (hlt2.out k e).1; omega)
      refine ⟨⟨k + 1, d, pre ++ [(q : Int) - 1], by go_num, by go_num, by omega, by omega, hE3, hid ((hP3.1.block _ (by omega)).trans hQ.out), ?_, HP2⟩, by simp [intOf]; omega⟩
      rw [List.flatMap_append]
      exact hown'
    · have hkr : k = r := by omega
      subst hkr
      have hp := hpre.out
      rw [Nat.sub_self, M.nthK, List.append_nil] at hp
      obtain ⟨B, d, rfl, hsl⟩ := Sl.of_own (enc := ics) (sz := 1) (by decide) (fun _ _ => rfl) (by omega) hown
      rw [hp] at hown
      have HS := hid (own0 hown)
      clear hsl hp hown
      go_wp2
      go_ret
      exact ⟨⟨B, d, rfl, HS.out⟩, hB⟩

/-- The list with a number. -/
def M.nth (f : M.Fl) (n : Nat) : List Int := M.nthK (f.wds.toNat + 1) f.rows.toNat n

theorem Nth_c (f : M.Fl) (r1 : 1 ≤ f.rows) (r7 : f.rows ≤ 7) (d1 : 1 ≤ f.wds) (d3 : f.wds ≤ 3) (nn : Nat) (hnn : nn ≤ 16384) (A : Option Addr) (n c : Nat) (w : World) :
    Calls Try.prog 95 #[.agg #[.int .i64 f.rows, .int .i64 f.wds, .int .i64 f.lf.lo, .int .i64 f.lf.hi, .slice A n c], .int .i64 nn] w fun e w' => (∃ B d, e = .returned (.slice B f.rows.toNat d) ∧ w'.ownsRow 0 3 1 (.slice B f.rows.toNat d) f.rows.toNat ((M.nth f nn).flatMap ics)) ∧ Ev w w' := by
  have h := Nth_k f.rows.toNat f.wds.toNat (by omega) (by omega) nn hnn f.lf.lo f.lf.hi A n c w
  rw [Int.toNat_of_nonneg (show 0 ≤ f.rows by omega), Int.toNat_of_nonneg (show 0 ≤ f.wds by omega)] at h
  exact h

end Go.Proofs.Ytcecmphdmpeibaa
