import Derived.Test.YtcecmphdmpeibaaL13
import Derived.Test.YtcecmphdmpeibaaB1
namespace Go.Proofs.Ytcecmphdmpeibaa
open Go.RowKit

/-- The numbers of a number's bits. -/
def M.bitsK (b : Nat) : Nat → Nat → List Int
  | _, 0 => []
  | p, j + 1 => (if b / 2 ^ p % 2 = 1 then [(p : Int)] else []) ++ M.bitsK b (p + 1) j
def M.bits (b : Nat) : List Int := M.bitsK b 0 7

theorem M.bitsK_none {b : Nat} : ∀ (j p : Nat), b / 2 ^ p = 0 → M.bitsK b p j = []
  | 0, _, _ => rfl
  | j + 1, p, h => by
    have h2 : b / 2 ^ (p + 1) = 0 := by rw [Nat.pow_succ, ← Nat.div_div_eq_div_mul, h]
    rw [M.bitsK, M.bitsK_none j (p + 1) h2, h]
    rfl

set_option maxRecDepth 100000 in
set_option maxHeartbeats 1000000 in
theorem Bits_c (b : Nat) (hb : b ≤ 127) (w : World) :
    Calls Try.prog 59 #[.int .i64 b] w fun e w' => (∃ B d, e = .returned (.slice B (M.bits b).length d) ∧ Sl ics 1 w' w'.heap.size B (M.bits b).length d (M.bits b)) ∧ Ev w w' := by
  obtain ⟨i0, hi0, hz0, hz1, hz2⟩ := info_parts info3
  go_enter Try.func59, Try.ntmps59
  go_wp2
  go_loopw [3, 4] (fun v i wr => ∃ k : Nat, ∃ pre : List Int, i = .int .i64 k ∧ k ≤ 7 ∧ Ev w wr ∧ wr.ownsRow w.heap.size 3 1 v pre.length (pre.flatMap ics) ∧ pre.length ≤ k ∧ Hid (pre ++ M.bitsK b k (7 - k) = M.bits b)) (fun _ i _ => 8 - (intOf i).toNat)
  case atStart => exact ⟨0, [], rfl, by omega, Ev.refl _, World.ownsRow_nil _ _ _ _, by simp, hid rfl⟩
  case round =>
    obtain ⟨k, pre, rfl, hk, hB, hown, hpk, hp⟩ := hrel
    have hbs := hB.size
    have e1 : (b : Int) / 2 ^ k = ((b / 2 ^ k : Nat) : Int) := by simp
    have hbq : k = 7 → b / 2 ^ k = 0 := by rintro rfl; omega
    have hnone := M.bitsK_none (b := b) (7 - k) k
    have hsucc : ∀ j, M.bitsK b k (j + 1) = (if b / 2 ^ k % 2 = 1 then [(k : Int)] else []) ++ M.bitsK b (k + 1) j := fun _ => rfl
    generalize b / 2 ^ k = q at e1 hbq hnone hsucc
    have HBQ := hid hbq
    have HNONE := hid hnone
    have HSUCC := hid hsucc
    clear hbq hnone hsucc
    by_cases hq : 0 < q
    · have hk7 : k < 7 := by
        rcases Nat.lt_or_ge k 7 with h | h
        · exact h
        · have := HBQ.out (by omega)
          omega
      have hp2 := hp.out
      rw [show 7 - k = (7 - (k + 1)) + 1 from by omega, HSUCC.out] at hp2
      have HP2 := hid hp2
      have hqI : (0 : Int) < q := by omega
      clear hp2
      by_cases hr : q % 2 = 1
      · have hbe : ((q : Int) % 2 == 1) = true := by simp; omega
        have HR := hid hr
        clear hr
        go_wp2_with (at_builtin; refine wpList_append_own _ rfl (.tmp 18) (.tmp 20) 27 rfl w.heap.size 3 i0 _ 1 8 Try.underlying27 hi0 hz0 hz1 hz2 rfl (by decide) _ pre.length (pre.flatMap ics) rfl (hown.alloc _) ⟨wr.heap.size, 0, none⟩ 1 1 [.int .i64 k] rfl rfl (news_in (alloc1 wr _).1) (by simp [Value.oneCell']) (by unfold maxLen; omega) (by omega) (by simp; omega) ?_; intro v' w1 hown' hgrow _)
        have hE1 := Ev.grown (hB.alloc _) hgrow (fun k e => (hown.lt k e).1)
        refine ⟨⟨k + 1, pre ++ [(k : Int)], by go_num, by omega, hE1, ?_, by simp; omega, hid ?_⟩, by simp [intOf]; omega⟩
        · rw [List.flatMap_append, List.length_append]
          exact hown'
        · have := HP2.out
          rw [if_pos HR.out] at this
          rw [List.append_assoc]
          exact this
      · have hbe : ((q : Int) % 2 == 1) = false := by simp; omega
        have HR := hid hr
        clear hr
        go_wp2
        refine ⟨⟨k + 1, pre, by go_num, by omega, hB, hown, by omega, hid ?_⟩, by simp [intOf]; omega⟩
        have := HP2.out
        rw [if_neg HR.out] at this
        exact this
    · have hq0 : q = 0 := by omega
      have hp2 := hp.out
      rw [HNONE.out hq0, List.append_nil] at hp2
      subst hq0
      obtain ⟨B2, d2, rfl, hsl⟩ := Sl.of_own (enc := ics) (sz := 1) (by decide) (fun _ _ => rfl) (by omega) hown
      have HS := hid hsl
      have HP := hid hp2
      clear hsl hp2 hown hpk hp
      go_wp2
      go_ret
      rw [← HP.out]
      exact ⟨⟨B2, d2, rfl, HS.out⟩, hB⟩

end Go.Proofs.Ytcecmphdmpeibaa
