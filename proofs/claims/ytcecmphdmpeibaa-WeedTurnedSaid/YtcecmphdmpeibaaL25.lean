import Derived.Test.YtcecmphdmpeibaaL24
set_option linter.unusedSimpArgs false
set_option linter.unusedVariables false
namespace Go.Proofs.Ytcecmphdmpeibaa
open Go.RowKit

set_option maxRecDepth 100000 in
set_option maxHeartbeats 2000000 in
theorem Same_c (row : Nat) (who : Int) (hrow : row ≤ 100) (A : Option Addr) (n c : Nat) (hn : n ≤ 16384) (l : List (List Int)) (h1 : ∀ t ∈ l, row < t.length) (w : World) (hl : LL w A n c l) :
    Calls Try.prog 90 #[.slice A n c, .int .i64 row, .int .i64 who] w fun e w' => (∃ B d, e = .returned (.slice B (M.agreeing l row who).length d) ∧ LL w' B (M.agreeing l row who).length d (M.agreeing l row who)) ∧ Ev w w' := by
  obtain ⟨i0, hi0, hz0, hz1, hz2⟩ := info_parts info27
  have hsm := hl.small
  go_enter Try.func90, Try.ntmps90
  go_wp2
  go_loopw [7, 8] (fun v i wr => ∃ k : Nat, ∃ vs : List Hd, ∃ xss : List (List Int), i = .int .i64 k ∧ k ≤ n ∧ Ev w wr ∧ wr.ownsRow w.heap.size 27 1 v vs.length (vs.flatMap hdc) ∧ vs.length ≤ k ∧ Hid (Rows2 wr vs xss) ∧ Hid (xss ++ M.agreeing (l.drop k) row who = M.agreeing l row who)) (fun _ i _ => n - (intOf i).toNat)
  case atStart => exact ⟨0, [], [], rfl, by omega, Ev.refl _, World.ownsRow_nil _ _ _ _, by simp, hid trivial, hid rfl⟩
  case round =>
    obtain ⟨k, vs, xss, rfl, hk, hB, hown, hvk, hR, hp⟩ := hrel
    by_cases hlt : k < n
    · obtain ⟨bb, off, t, B2, m2, d2, rfl, hbb, hx, hd, e0, hr⟩ := hl.at_ hB hlt
      have hlen := h1 t (List.mem_of_getElem? hx)
      have hir := hr.ev hB
      have hsl := hir.sl
      have hrl : row < m2 := by have := hsl.len; simp only at this; omega
      obtain ⟨b3, off3, x, hA3, hb3, hx3, hd3, e3⟩ := hsl.int (Below.refl _ wr) hrl
      simp only at hA3
      subst hA3
      have hgd : t.getD row 0 = x := by rw [List.getD_eq_getElem?_getD, hx3]; rfl
      have hp2 := hp.out
      rw [hd] at hp2
      simp only [M.agreeing, List.filter_cons] at hp2
      rw [hgd] at hp2
      have hm2 := hsl.small
      have hcap := hsl.cap
      simp only at hm2 hcap
      have HIR := hid hir
      clear hx hd hx3 hd3 hgd hlen hsl hr hir
      have hbs := hB.size
      by_cases hxw : x = who
      · have hbe : (x == who) = true := by simpa using hxw
        rw [if_pos hbe] at hp2
        have HP2 := hid hp2
        clear hxw hp2
        go_wp2_with (at_builtin; refine wpList_append_own _ rfl (.tmp 24) (.tmp 29) 44 rfl w.heap.size 27 i0 _ 1 24 Try.underlying44 hi0 hz0 hz1 hz2 rfl (by decide) _ vs.length (vs.flatMap hdc) rfl (hown.alloc _) ⟨wr.heap.size, 0, none⟩ 1 1 [.slice (some ⟨b3, off3, none⟩) m2 d2] rfl rfl (news_in (alloc1 wr _).1) (by simp [Value.oneCell']) (by unfold maxLen; omega) (by omega) (by simp; omega) ?_; intro v' w4 hown' hgrow _)
        have hownA := hown.alloc (.cells #[.slice (some ⟨b3, off3, none⟩) m2 d2] 27)
        have hE4 := Ev.grown (hB.alloc _) hgrow (fun k e => by have := (hown.lt k e).1; omega)
        refine ⟨⟨k + 1, vs ++ [(some ⟨b3, off3, none⟩, m2, d2)], xss ++ [t], by go_num, by omega, hE4, ?_, by simp; omega, hid ?_, hid ?_⟩, by simp [intOf]; omega⟩
        · rw [List.flatMap_append, List.length_append]
          exact hown'
        · refine Rows2.snoc ?_ (Rows2.imp (fun v x h => h.grown hownA hgrow) (hR.out.ev (Ev.alloc (Ev.refl _) _)))
          exact IRow.grown (IRow.ev HIR.out (Ev.alloc (Ev.refl _) _)) hownA hgrow
        · rw [List.append_assoc]
          exact HP2.out
      · have hbe : (x == who) = false := by simpa using hxw
        rw [if_neg (by rw [hbe]; decide)] at hp2
        have HP2 := hid hp2
        clear hxw hp2
        go_wp2
        exact ⟨⟨k + 1, vs, xss, by go_num, by omega, hB, hown, by omega, hR, HP2⟩, by simp [intOf]; omega⟩
    · have hd := hs_nil hl hlt
      have hp2 := hp.out
      rw [hd] at hp2
      have hp3 : xss = M.agreeing l row who := by rw [← hp2]; simp [M.agreeing]
      obtain ⟨B, d, rfl, hsl⟩ := Sl.of_own (enc := hdc) (sz := 1) (by decide) (hdc_len _) (by omega) hown
      have hll : LL wr B vs.length d (M.agreeing l row who) := ⟨vs, hsl, by rw [← hp3]; exact hR.out⟩
      have hle := hll.len
      have HS := hid hll
      have HL := hid hle
      clear hsl hp2 hp3 hown hll hd hle
      go_wp2
      go_ret
      refine ⟨⟨B, d, ?_, ?_⟩, hB⟩
      · rw [HL.out]; rfl
      · rw [HL.out]; exact HS.out

end Go.Proofs.Ytcecmphdmpeibaa
