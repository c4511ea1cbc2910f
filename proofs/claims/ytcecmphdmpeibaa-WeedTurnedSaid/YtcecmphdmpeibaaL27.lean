import Derived.Test.YtcecmphdmpeibaaL26
import Derived.Test.YtcecmphdmpeibaaQ5
set_option linter.unusedSimpArgs false
set_option linter.unusedVariables false
namespace Go.Proofs.Ytcecmphdmpeibaa
open Go.RowKit

theorem M.maxes_ge (g : Int → Int) : ∀ (l : List Int) (a : Int), a ≤ M.maxes g l a
  | [], a => Int.le_refl _
  | s :: r, a => by
    unfold M.maxes
    have := M.maxes_ge g r (max a (g s))
    omega

theorem M.pk_cons {c : List Int} {y : Int} {i row many : Int} {r : Int × Int} {cs : List Int} (h : cs = y :: c) (hp : M.pk cs i row many = r) : (if y < 8 ∧ y < many then M.pk c (i + 1) i y else M.pk c (i + 1) row many) = r := by
  rw [← hp, h, M.pk]

theorem M.costs_drop {f : M.Fl} {x : Int} {l : List (List Int)} {k : Nat} (hk : k < f.rows.toNat) : (M.costs f x l).drop k = M.cost f x l k :: (M.costs f x l).drop (k + 1) := by
  have hlen : (M.costs f x l).length = f.rows.toNat := by unfold M.costs; simp
  rw [List.drop_eq_getElem_cons (by omega)]
  congr 1
  unfold M.costs
  simp
theorem M.costs_end {f : M.Fl} {x : Int} {l : List (List Int)} {k : Nat} (hk : ¬ k < f.rows.toNat) : (M.costs f x l).drop k = [] := List.drop_eq_nil_of_le (by unfold M.costs; simp; omega)

/-- What the reference's Next needs of its truths. -/
def M.Fine (f : M.Fl) (l : List (List Int)) : Prop := ∀ t ∈ l, M.Say f t
theorem M.Fine.long {f : M.Fl} {l : List (List Int)} (h : M.Fine f l) : M.Long f l := fun t ht => (h t ht).1
theorem M.Fine.agree {f : M.Fl} {l : List (List Int)} (h : M.Fine f l) (r : Nat) (s : Int) : M.Fine f (M.agreeing l r s) := fun t ht => h t (M.agree_mem.1 ht).1
theorem M.Fine.at_ {f : M.Fl} {l : List (List Int)} (h : M.Fine f l) {r : Nat} (hr : (r : Int) < f.rows) : ∀ t ∈ l, -1 ≤ t.getD r 0 ∧ t.getD r 0 < f.wds := fun t ht => by
  obtain ⟨h1, h2⟩ := h t ht
  refine h2 _ ?_
  rw [List.getD_eq_getElem?_getD, List.getElem?_eq_getElem (show r < t.length by omega)]
  simp

set_option maxRecDepth 100000 in
set_option maxHeartbeats 4000000 in
theorem rNext_c (f : M.Fl) (x : Int) (h0 : M.check f = 0) (B : Option Addr) (m d : Nat) : ∀ (N : Nat) (hN : N ≤ 16384) (A : Option Addr) (n c : Nat) (l : List (List Int)) (w : World) (hle : l.length ≤ N) (hne : l ≠ []) (hf : M.Fine f l) (hl : LL w A n c l),
    Calls Try.prog 42 #[.agg #[.int .i64 f.rows, .int .i64 f.wds, .int .i64 f.lf.lo, .int .i64 f.lf.hi, .slice B m d], .slice A n c, .int .i64 x] w fun e w' => e = .returned (.tuple #[.int .i64 (M.rnext f x l).1, .int .i64 (M.rnext f x l).2]) ∧ Ev w w' := by
  obtain ⟨r1, r7, d1, d3, _, _⟩ := M.check_bd h0
  obtain ⟨R, hR⟩ := Int.eq_ofNat_of_zero_le (show 0 ≤ f.rows by omega)
  obtain ⟨D, hD⟩ := Int.eq_ofNat_of_zero_le (show 0 ≤ f.wds by omega)
  have HR := hid hR
  have HD := hid hD
  clear hR hD
  intro N
  induction N with
  | zero =>
    intro _ A n c l w hle hne
    exact absurd (List.eq_nil_of_length_eq_zero (by omega)) hne
  | succ N ih =>
    intro hN A n c l w hle hne hf hl
    have hsm := hl.small
    have hln := hl.len
    have hdn := fun W (hE : Ev w W) => rDone_c x A n c l (fun t ht => by have := hf.long t ht; omega) W (hl.ev hE)
    have hkr := M.known_rdone (x := x) hne hf.long (fun t ht => M.rnum_bd h0 (hf t ht))
    have hwh := fun (row : Int) (a : 0 ≤ row) (b : row < f.rows) W (hE : Ev w W) => rWho_c f row h0 a b B m d A n c l hf.long W (hl.ev hE)
    have hsa := fun (row : Nat) (who : Int) (a : (row : Int) < f.rows) W (hE : Ev w W) => Same_c row who (by omega) A n c (by omega) l (fun t ht => by have := hf.long t ht; omega) W (hl.ev hE)
    generalize M.rdone x l = rd at hdn hkr
    obtain ⟨lo, hi⟩ := rd
    simp only at hdn hkr
    have HDN := hid hdn
    have HWH := hid hwh
    have HSA := hid hsa
    have HIH := hid ih
    have HF := hid hf
    clear hdn hwh hsa ih hf
    by_cases hlh : lo = hi
    · have hk := hkr.1 hlh
      subst hlh
      have hres : M.rnext f x l = (-1, 0) := by unfold M.rnext; rw [hk]; rfl
      rw [hres]
      clear hk hkr hres
      go_enter Try.func42, Try.ntmps42
      go_wp2_with (first | (go_at_call 31; ((with_reducible refine (HDN.out _ (by repeat (first | with_reducible exact Ev.refl _ | with_reducible refine Ev.alloc ?_ _))).mono ?_); rintro e w1 ⟨rfl, hb1⟩)))
      go_ret2
      exact ⟨rfl, ((Ev.alloc (Ev.refl _) _).trans hb1).alloc _⟩
    · have hk : M.known f x l = false := by
        cases hq : M.known f x l with
        | false => rfl
        | true => exact absurd (hkr.2 hq) hlh
      have hlb : (lo == hi) = false := by simpa using hlh
      have hpk := M.rnext_pk r1 r7 HF.out.long hk
      generalize M.rnext f x l = res at hpk
      have HPK := hid hpk
      clear hpk hk hkr
      go_enter Try.func42, Try.ntmps42
      go_wp2_with (first | (go_at_call 31; ((with_reducible refine (HDN.out _ (by repeat (first | with_reducible exact Ev.refl _ | with_reducible refine Ev.alloc ?_ _))).mono ?_); rintro e w1 ⟨rfl, hb1⟩)))
      generalize hW2 : World.alloc w1 _ = w2
      have hE2 : Ev w w2 := by rw [← hW2]; exact ((Ev.alloc (Ev.refl _) _).trans hb1).alloc _
      have Q2 : Hid (w2.heap[w.heap.size]? = some (.cells #[.int .i64 f.rows, .int .i64 f.wds, .int .i64 f.lf.lo, .int .i64 f.lf.hi, .slice B m d] 26 (0, 0))) := hid (by rw [← hW2]; exact (Ev.alloc (Ev.refl _) _).heap (hb1.heap (alloc1 w (.cells #[.int .i64 f.rows, .int .i64 f.wds, .int .i64 f.lf.lo, .int .i64 f.lf.hi, .slice B m d] 26)).1))
      clear hW2
      go_loopw [9, 10, 11] (fun row many r wr => ∃ k : Nat, ∃ a b : Int, row = .int .i64 a ∧ many = .int .i64 b ∧ r = .int .i64 k ∧ k ≤ R ∧ 1 ≤ b ∧ b ≤ 100 ∧ Ev w wr ∧ Hid (wr.heap[w.heap.size]? = some (.cells #[.int .i64 f.rows, .int .i64 f.wds, .int .i64 f.lf.lo, .int .i64 f.lf.hi, .slice B m d] 26 (0, 0))) ∧ Hid (M.pk ((M.costs f x l).drop k) k a b = res)) (fun _ _ r _ => R - (intOf r).toNat)
      case atStart => exact ⟨0, -1, 100, rfl, rfl, rfl, by omega, by omega, by omega, hE2, Q2, hid HPK.out⟩
      case round =>
        obtain ⟨k, a, b, rfl, rfl, rfl, hk, hb1, hb2, hB, hQ, hP⟩ := hrel
        obtain ⟨q0, q1, q2, q3, q4⟩ := cells5 hQ.out
        have hlq := heap_lt hQ.out
        by_cases hlt : k < R
        · have hkI : (k : Int) < f.rows := by have := HR.out; omega
          have hkn : k < f.rows.toNat := by omega
          have hp2 := M.pk_cons (M.costs_drop hkn) hP.out
          have hw2 := M.who_two (row := k) d1 (HF.out.at_ hkI)
          have hwk := HWH.out k (by omega) hkI
          generalize M.who f (k : Int) l = v at hwk hw2
          have HWK := hid hwk
          clear hwk
          cases hs : M.same k l with
          | true =>
            have hv := hw2.2 hs
            have hvI : (v.length : Int) < 2 := by omega
            have hp3 : M.pk ((M.costs f x l).drop (k + 1)) (k + 1) a b = res := by
              unfold M.cost at hp2
              rw [hs, if_pos rfl, if_neg (by omega)] at hp2
              exact hp2
            have HP3 := hid hp3
            clear hp2 hp3 hw2 hs hv
            go_wp2_with (first | (go_at_call 35; ((with_reducible refine (HWK.out _ hB).mono ?_); rintro e w3 ⟨⟨B3, d3', rfl, hs3⟩, hb3⟩; have HS3 := hid hs3; clear hs3)))
            exact ⟨⟨k + 1, a, b, rfl, rfl, by go_num, by omega, by omega, by omega, hB.trans hb3, hid (hb3.heap hQ.out), HP3⟩, by simp [intOf]; omega⟩
          | false =>
            have hv : ¬ v.length < 2 := fun h => by rw [hw2.1 h] at hs; cases hs
            have hvI : ¬ (v.length : Int) < 2 := by omega
            have hcost : M.cost f x l k = 1 + M.worst f x l k := by unfold M.cost; rw [hs]; rfl
            have hqo := (M.q_opens r1 x _ l (Nat.le_refl _) HF.out.long).2 k hkn hs
            have hol := M.opens_le f l
            rw [hcost] at hp2
            have hw7 : M.worst f x l k ≤ 6 := by omega
            have HP2 := hid hp2
            have hlt0 := M.agree_lt hs
            have HLT := hid hlt0
            have HSK := hid (fun who => HSA.out k who hkI)
            clear hp2 hw2 hs hv hcost hqo hol hlt0
            go_wp2_with (first | (go_at_call 35; ((with_reducible refine (HWK.out _ hB).mono ?_); rintro e w3 ⟨⟨B3, d3', rfl, hs3⟩, hb3⟩; have HS3 := hid hs3; clear hs3)))
            have hB3 := hB.trans hb3
            have hQ3 := hid (hb3.heap hQ.out)
            go_loopw [12, 13] (fun vw vi wx => ∃ j : Nat, ∃ y : Int, vw = .int .i64 y ∧ vi = .int .i64 ((j : Int) - 1) ∧ j ≤ D + 1 ∧ 0 ≤ y ∧ y ≤ 100 ∧ Ev w wx ∧ Hid (wx.heap[w.heap.size]? = some (.cells #[.int .i64 f.rows, .int .i64 f.wds, .int .i64 f.lf.lo, .int .i64 f.lf.hi, .slice B m d] 26 (0, 0))) ∧ Hid (M.maxes (fun s => M.q f x (M.agreeing l k s)) ((M.saids f).drop j) y = M.worst f x l k)) (fun _ vi _ => D + 1 - (intOf vi + 1).toNat)
            case atStart => exact ⟨0, 0, rfl, rfl, by omega, by omega, by omega, hB3, hQ3, hid rfl⟩
            case round =>
              obtain ⟨j, y, rfl, rfl, hj, hy0, hy1, hBx, hQx, hM⟩ := hrel
              clear q0 q1 q2 q3 q4
              obtain ⟨q0, q1, q2, q3, q4⟩ := cells5 hQx.out
              have hlqx := heap_lt hQx.out
              have hge : y ≤ M.worst f x l k := by rw [← hM.out]; exact M.maxes_ge _ _ _
              by_cases hj2 : j < D + 1
              · have hjI : (j : Int) - 1 < f.wds := by have := HD.out; omega
                have hm2 : M.maxes (fun s => M.q f x (M.agreeing l k s)) ((M.saids f).drop (j + 1)) (max y (M.q f x (M.agreeing l k ((j : Int) - 1)))) = M.worst f x l k := by
                  have := hM.out
                  rw [saids_drop HD.out hj2] at this
                  exact this
                by_cases hyb : y + 1 < b
                · have hsk := HSK.out ((j : Int) - 1)
                  have hfa := HF.out.agree k ((j : Int) - 1)
                  have hlt0 := HLT.out ((j : Int) - 1)
                  generalize M.agreeing l k ((j : Int) - 1) = part at hsk hm2 hfa hlt0
                  generalize hpn : part.length = pn at hsk hlt0
                  by_cases hp0 : pn = 0
                  · subst hp0
                    obtain rfl : part = [] := List.eq_nil_of_length_eq_zero hpn
                    have hqz : M.q f x [] = 0 := by rw [M.q_eq, M.known_nil]; rfl
                    rw [hqz, show max y 0 = y by omega] at hm2
                    have HM2 := hid hm2
                    have HSK2 := hid hsk
                    clear hm2 hsk hfa hlt0 hpn hqz hge
                    go_wp2_with (first | (go_at_call 90; ((with_reducible refine (HSK2.out _ hBx).mono ?_); rintro e w4 ⟨⟨B4, d4, rfl, hl4⟩, hb4⟩; have HL4 := hid hl4; clear hl4)))
                    exact ⟨⟨j + 1, y, rfl, by go_num, by omega, hy0, hy1, hBx.trans hb4, hid (hb4.heap hQx.out), HM2⟩, by simp [intOf]; omega⟩
                  · have hpp : 0 < pn := by omega
                    have hppI : (0 : Int) < (pn : Int) := by omega
                    have hqo := (M.q_opens r1 x _ part (Nat.le_refl _) hfa.long).1
                    have hol := M.opens_le f part
                    have hq0 := (M.q_bd r1 x _ part (Nat.le_refl _)).1
                    have hih := fun B d W (h : LL W B pn d part) => HIH.out (by omega) B pn d part W (by omega) (by intro e; rw [e] at hpn; simp at hpn; omega) hfa h
                    rw [M.rnext_q] at hih
                    generalize M.q f x part = q at hm2 hqo hq0 hih
                    generalize (M.rnext f x part).1 = qr at hih
                    have HM2 := hid hm2
                    have HSK2 := hid hsk
                    have HIH2 := hid hih
                    clear hm2 hsk hfa hlt0 hpn hp0 hge hih
                    go_wp2_with (first | (go_at_call 90; ((with_reducible refine (HSK2.out _ hBx).mono ?_); rintro e w4 ⟨⟨B4, d4, rfl, hl4⟩, hb4⟩; have HL4 := hid hl4; clear hl4 q0 q1 q2 q3 q4; obtain ⟨q0, q1, q2, q3, q4⟩ := cells5 (hb4.heap hQx.out))) | (go_at_call 42; ((with_reducible refine (HIH2.out _ _ _ HL4.out).mono ?_); rintro e w5 ⟨rfl, hb5⟩)))
                    exact ⟨⟨j + 1, max y q, by (congr 1; split <;> omega), by go_num, by omega, by omega, by omega, (hBx.trans hb4).trans hb5, hid (hb5.heap (hb4.heap hQx.out)), HM2⟩, by simp [intOf]; omega⟩
                · have hp3 : M.pk ((M.costs f x l).drop (k + 1)) (k + 1) a b = res := by
                    have := HP2.out
                    rw [if_neg (by omega)] at this
                    exact this
                  have HP3 := hid hp3
                  clear hp3 hm2 hge
                  go_wp2
                  exact ⟨⟨k + 1, a, b, rfl, rfl, by go_num, by omega, by omega, by omega, hBx, hQx, HP3⟩, by simp [intOf]; omega⟩
              · obtain rfl : j = D + 1 := by omega
                have hjI : ¬ (((D + 1 : Nat) : Int) - 1 < f.wds) := by have := HD.out; omega
                have hyw : y = M.worst f x l k := by
                  have := hM.out
                  rw [saids_end HD.out] at this
                  exact this
                by_cases hyb : y + 1 < b
                · have hp3 : M.pk ((M.costs f x l).drop (k + 1)) (k + 1) k (y + 1) = res := by
                    have := HP2.out
                    rw [if_pos (by omega), ← hyw, Int.add_comm 1 y] at this
                    exact this
                  have HP3 := hid hp3
                  clear hp3 hge hyw
                  go_wp2
                  exact ⟨⟨k + 1, k, y + 1, rfl, rfl, by go_num, by omega, by omega, by omega, hBx, hQx, HP3⟩, by simp [intOf]; omega⟩
                · have hp3 : M.pk ((M.costs f x l).drop (k + 1)) (k + 1) a b = res := by
                    have := HP2.out
                    rw [if_neg (by omega)] at this
                    exact this
                  have HP3 := hid hp3
                  clear hp3 hge hyw
                  go_wp2
                  exact ⟨⟨k + 1, a, b, rfl, rfl, by go_num, by omega, by omega, by omega, hBx, hQx, HP3⟩, by simp [intOf]; omega⟩
        · have hres : res = (a, b) := by
            rw [← hP.out, M.costs_end (by have := HR.out; omega)]
            rfl
          have hkI : ¬ ((k : Int) < f.rows) := by have := HR.out; omega
          subst hres
          go_wp2
          go_ret2
          exact ⟨rfl, hB⟩

end Go.Proofs.Ytcecmphdmpeibaa
