import Derived.Test.YtcecmphdmpeibaaL13
namespace Go.Proofs.Ytcecmphdmpeibaa
open Go.RowKit

theorem any_step {α : Type} {p : α → Bool} {l : List α} {x : α} {r : List α} {b : Bool} (h : l = x :: r) : (b || l.any p) = ((b || p x) || r.any p) := by rw [h, List.any_cons, Bool.or_assoc]

set_option maxRecDepth 100000 in
set_option maxHeartbeats 2000000 in
theorem rWho_k (D row : Nat) (hD : D ≤ 3) (hrow : row ≤ 100) (rows lo hi : Int) (B : Option Addr) (m d : Nat) (A : Option Addr) (n c : Nat) (l : List (List Int)) (h1 : ∀ t ∈ l, row < t.length) (w : World) (hl : LL w A n c l) :
    Calls Try.prog 35 #[.agg #[.int .i64 rows, .int .i64 D, .int .i64 lo, .int .i64 hi, .slice B m d], .slice A n c, .int .i64 row] w fun e w' => (∃ B d, e = .returned (.slice B (M.whoFrom row l 0 (D + 1)).length d) ∧ Sl ics 1 w' w'.heap.size B (M.whoFrom row l 0 (D + 1)).length d (M.whoFrom row l 0 (D + 1))) ∧ Ev w w' := by
  obtain ⟨i0, hi0, hz0, hz1, hz2⟩ := info_parts info3
  have hsm := hl.small
  go_enter Try.func35, Try.ntmps35
  go_wp2
  generalize hW0 : World.alloc w _ = W0
  have hE0 : Ev w W0 := by rw [← hW0]; exact Ev.alloc (Ev.refl _) _
  have hal := alloc1 w (.cells #[.int .i64 rows, .int .i64 D, .int .i64 lo, .int .i64 hi, .slice B m d] 26)
  rw [hW0] at hal
  have Q0 := hid hal.1
  clear hal hW0
  go_loopw [7, 8, 9, 10] (fun v i _ _ wr => ∃ k : Nat, ∃ pre : List Int, i = .int .i64 ((k : Int) - 1) ∧ k ≤ D + 1 ∧ Ev w wr ∧ Hid (wr.heap[w.heap.size]? = some (.cells #[.int .i64 rows, .int .i64 D, .int .i64 lo, .int .i64 hi, .slice B m d] 26 (0, 0))) ∧ wr.ownsRow (w.heap.size + 1) 3 1 v pre.length (pre.flatMap ics) ∧ pre.length ≤ k ∧ Hid (pre ++ M.whoFrom row l k (D + 1 - k) = M.whoFrom row l 0 (D + 1))) (fun _ i _ _ _ => D + 1 - (intOf i + 1).toNat)
  case atStart => exact ⟨0, [], rfl, by omega, hE0, Q0, World.ownsRow_nil _ _ _ _, by simp, hid rfl⟩
  case round =>
    obtain ⟨k, pre, rfl, hk, hB, hQ, hown, hpk, hp⟩ := hrel
    obtain ⟨q0, q1, q2, q3, q4⟩ := cells5 hQ.out
    have hlq := heap_lt hQ.out
    by_cases hlt : k < D + 1
    · have hltI : (k : Int) - 1 < D := by omega
      have hp2 := hp.out
      rw [show D + 1 - k = (D + 1 - (k + 1)) + 1 from by omega, M.whoFrom] at hp2
      have HP2 := hid hp2
      clear hp2
      go_wp2_with fail
      go_loop [9, 10] (fun fb i => ∃ j : Nat, ∃ b : Bool, fb = .bool b ∧ i = .int .i64 j ∧ j ≤ n ∧ Hid ((b || (l.drop j).any fun t => t.getD (row : Int).toNat 0 == (k : Int) - 1) = M.whoF row l ((k : Int) - 1))) (fun _ i => n - (intOf i).toNat)
      case atStart => exact ⟨0, false, rfl, rfl, by omega, hid rfl⟩
      case round =>
        obtain ⟨j, b, rfl, rfl, hj, hb⟩ := hrel
        by_cases hjn : j < n
        · obtain ⟨bb, off, t, B2, m2, d2, rfl, hbb, hx, hd, e0, hr⟩ := hl.at_ hB hjn
          have hlen := h1 t (List.mem_of_getElem? hx)
          have hsl := (hr.ev hB).sl
          have hrl : row < m2 := by have := hsl.len; simp only at this; omega
          obtain ⟨b3, off3, x, hA3, hb3, hx3, hd3, e3⟩ := hsl.int (Below.refl _ wr) hrl
          simp only at hA3
          subst hA3
          have hgd : t.getD (row : Int).toNat 0 = x := by rw [Int.toNat_natCast, List.getD_eq_getElem?_getD, hx3]; rfl
          have hb2 := hb.out
          rw [any_step hd, hgd] at hb2
          have HB2 := hid hb2
          have hm2 := hsl.small
          have hcap := hsl.cap
          simp only at hm2 hcap
          clear hx hd hx3 hd3 hgd hb2 hlen hsl hr
          cases b with
          | true =>
            go_wp2
            go_round
            case rel => exact ⟨j + 1, true, rfl, by go_num, by omega, HB2⟩
            case measure => simp [intOf]; omega
          | false =>
            by_cases hxw : x = (k : Int) - 1
            · have hbe : (x == (k : Int) - 1) = true := by simpa using hxw
              have HB3 := hid (show (true || (l.drop (j + 1)).any fun t => t.getD (row : Int).toNat 0 == (k : Int) - 1) = M.whoF row l ((k : Int) - 1) by have := HB2.out; rw [hbe] at this; exact this)
              clear hxw HB2
              go_wp2
              go_round
              case rel => exact ⟨j + 1, true, rfl, by go_num, by omega, HB3⟩
              case measure => simp [intOf]; omega
            · have hbe : (x == (k : Int) - 1) = false := by simpa using hxw
              have HB3 := hid (show (false || (l.drop (j + 1)).any fun t => t.getD (row : Int).toNat 0 == (k : Int) - 1) = M.whoF row l ((k : Int) - 1) by have := HB2.out; rw [hbe] at this; exact this)
              clear hxw HB2
              go_wp2
              go_round
              case rel => exact ⟨j + 1, false, rfl, by go_num, by omega, HB3⟩
              case measure => simp [intOf]; omega
        · have hb2 := hb.out
          rw [hs_nil hl hjn, List.any_nil, Bool.or_false] at hb2
          have HB2 := hid hb2
          have hbs := hB.size
          clear hb2
          cases b with
          | true =>
            go_wp2_with (at_builtin; refine wpList_append_own _ rfl (.tmp 36) (.tmp 38) 27 rfl (w.heap.size + 1) 3 i0 _ 1 8 Try.underlying27 hi0 hz0 hz1 hz2 rfl (by decide) _ pre.length (pre.flatMap ics) rfl (hown.alloc _) ⟨wr.heap.size, 0, none⟩ 1 1 [.int .i64 ((k : Int) - 1)] rfl rfl (news_in (alloc1 wr _).1) (by simp [Value.oneCell']) (by unfold maxLen; omega) (by omega) (by simp; omega) ?_; intro v' w1 hown' hgrow _)
            have hE1 := Ev.grown (hB.alloc _) hgrow (fun k e => by have := (hown.lt k e).1; omega)
            refine ⟨⟨k + 1, pre ++ [(k : Int) - 1], by go_num, by omega, hE1, hid ((hgrow.block _ (by simp; omega) (fun e => by have := (hown.lt _ e.symm).1; omega)).trans ((Ev.alloc (Ev.refl _) _).heap hQ.out)), ?_, by simp; omega, hid ?_⟩, by simp [intOf]; omega⟩
            · rw [List.flatMap_append, List.length_append]
              exact hown'
            · have := HP2.out
              rw [← HB2.out, if_pos rfl] at this
              rw [List.append_assoc]
              exact this
          | false =>
            go_wp2
            refine ⟨⟨k + 1, pre, by go_num, by omega, hB, hQ, hown, by omega, hid ?_⟩, by simp [intOf]; omega⟩
            have := HP2.out
            rw [← HB2.out, if_neg (by decide)] at this
            exact this
    · have hkD : k = D + 1 := by omega
      subst hkD
      have hp2 := hp.out
      rw [Nat.sub_self, M.whoFrom, List.append_nil] at hp2
      obtain ⟨B2, d2, rfl, hsl⟩ := Sl.of_own (enc := ics) (sz := 1) (by decide) (ics_len _) (by omega) hown
      have HS := hid hsl
      have HP := hid hp2
      clear hsl hp2 hown hpk hp
      go_wp2
      go_ret
      rw [← HP.out]
      exact ⟨⟨B2, d2, rfl, HS.out⟩, hB⟩

theorem rWho_c (f : M.Fl) (row : Int) (h0 : M.check f = 0) (r0 : 0 ≤ row) (r1 : row < f.rows) (B : Option Addr) (m d : Nat) (A : Option Addr) (n c : Nat) (l : List (List Int)) (h1 : ∀ t ∈ l, (t.length : Int) = f.rows) (w : World) (hl : LL w A n c l) :
    Calls Try.prog 35 #[.agg #[.int .i64 f.rows, .int .i64 f.wds, .int .i64 f.lf.lo, .int .i64 f.lf.hi, .slice B m d], .slice A n c, .int .i64 row] w fun e w' => (∃ B d, e = .returned (.slice B (M.who f row l).length d) ∧ Sl ics 1 w' w'.heap.size B (M.who f row l).length d (M.who f row l)) ∧ Ev w w' := by
  obtain ⟨b1, b7, d1, d3, _, _⟩ := M.check_bd h0
  have h := rWho_k f.wds.toNat row.toNat (by omega) (by omega) f.rows f.lf.lo f.lf.hi B m d A n c l (fun t ht => by have := h1 t ht; omega) w hl
  rw [Int.toNat_of_nonneg r0, Int.toNat_of_nonneg (show 0 ≤ f.wds by omega)] at h
  unfold M.who
  rw [show (f.wds + 1).toNat = f.wds.toNat + 1 from by omega]
  exact h

end Go.Proofs.Ytcecmphdmpeibaa
