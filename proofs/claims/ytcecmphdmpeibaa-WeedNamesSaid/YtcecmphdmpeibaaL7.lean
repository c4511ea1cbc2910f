import Derived.Test.YtcecmphdmpeibaaL6
namespace Go.Proofs.Ytcecmphdmpeibaa
open Go.RowKit

theorem M.power_nat {f : M.Fl} (r1 : 1 ≤ f.rows) (r7 : f.rows ≤ 7) (d1 : 1 ≤ f.wds) (d3 : f.wds ≤ 3) : ∃ P : Nat, M.power f = (P : Int) ∧ P ≤ 16384 ∧ P = (f.wds.toNat + 1) ^ f.rows.toNat := by
  refine ⟨(f.wds.toNat + 1) ^ f.rows.toNat, ?_, ?_, rfl⟩
  · unfold M.power
    rw [show f.wds + 1 = ((f.wds.toNat + 1 : Nat) : Int) from by omega]
    simp
  · exact Nat.le_trans (Nat.pow_le_pow_right (by omega) (show f.rows.toNat ≤ 7 by omega)) (Nat.le_trans (Nat.pow_le_pow_left (show f.wds.toNat + 1 ≤ 4 by omega) 7) (by decide))

/-- A tally lies within the rows. -/
def M.tin (f : M.Fl) : Prop := ∀ t ∈ f.ts, 0 ≤ t.fr ∧ t.fr ≤ t.to ∧ t.to < f.rows

theorem hdc_len (ys : List Hd) : ∀ y ∈ ys, (hdc y).length = 1 := fun _ _ => rfl

set_option maxRecDepth 100000 in
set_option maxHeartbeats 2000000 in
theorem Truths_c (f : M.Fl) (r1 : 1 ≤ f.rows) (r7 : f.rows ≤ 7) (d1 : 1 ≤ f.wds) (d3 : f.wds ≤ 3) (hv : M.tin f) (A : Option Addr) (n c : Nat) (w : World) (hs : Sl tcs 5 w w.heap.size A n c f.ts) :
    Calls Try.prog 57 #[.agg #[.int .i64 f.rows, .int .i64 f.wds, .int .i64 f.lf.lo, .int .i64 f.lf.hi, .slice A n c]] w fun e w' => (∃ B m d, e = .returned (.slice B m d) ∧ LL w' B m d (M.rtruths f)) ∧ Ev w w' := by
  obtain ⟨i0, hi0, hz0, hz1, hz2⟩ := info_parts info27
  obtain ⟨P, hP, hP2, -⟩ := M.power_nat r1 r7 d1 d3
  have hmany := fun W => Many_c f A n c W (by omega) (by omega) (by omega) (by omega)
  rw [hP] at hmany
  have hnth := fun W k (hk : k ≤ 16384) => Nth_c f r1 r7 d1 d3 k hk A n c W
  have hrt : M.rtruths f = M.rtruthsK f 0 P := by unfold M.rtruths; rw [hP]; rfl
  have HMANY := hid hmany
  have HNTH := hid hnth
  have HRT := hid hrt
  clear hmany hnth hrt hP
  go_enter Try.func57, Try.ntmps57
  go_wp2
  generalize hW0 : World.alloc w _ = W0
  have hE0 : Ev w W0 := by rw [← hW0]; exact Ev.alloc (Ev.refl _) _
  have hal := alloc1 w (.cells #[.int .i64 f.rows, .int .i64 f.wds, .int .i64 f.lf.lo, .int .i64 f.lf.hi, .slice A n c] 26)
  rw [hW0] at hal
  have Q0 := hid hal.1
  clear hal hW0
  go_loopw [3, 4] (fun v i wr => ∃ k : Nat, ∃ vs : List Hd, ∃ xss : List (List Int), i = .int .i64 k ∧ k ≤ P ∧ Ev w wr ∧ Hid (wr.heap[w.heap.size]? = some (.cells #[.int .i64 f.rows, .int .i64 f.wds, .int .i64 f.lf.lo, .int .i64 f.lf.hi, .slice A n c] 26 (0, 0))) ∧ wr.ownsRow (w.heap.size + 1) 27 1 v vs.length (vs.flatMap hdc) ∧ vs.length ≤ k ∧ Hid (Rows2 wr vs xss) ∧ Hid (xss ++ M.rtruthsK f k (P - k) = M.rtruths f)) (fun _ i _ => P - (intOf i).toNat)
  case atStart => exact ⟨0, [], [], rfl, by omega, hE0, Q0, World.ownsRow_nil _ _ _ _, by simp, hid trivial, hid HRT.out.symm⟩
  case round =>
    obtain ⟨k, vs, xss, rfl, hk, hB, hQ, hown, hvk, hR, hp⟩ := hrel
    obtain ⟨q0, q1, q2, q3, q4⟩ := cells5 hQ.out
    have hlq := heap_lt hQ.out
    by_cases hlt : k < P
    · have hp2 := hp.out
      rw [show P - k = (P - (k + 1)) + 1 from by omega, M.rtruthsK_succ] at hp2
      have HP2 := hid hp2
      have hist := fun W B m d (hE : Ev w W) (ht : Sl ics 1 W W.heap.size B m d (M.nth f k)) => IsTruth_c f A n c B m d (M.nth f k) r1 r7 d1 d3 hv W (hs.ev hE) ht
      cases hb : M.isTruth f (M.nth f k) with
      | false =>
        rw [hb] at hist
        have HIST := hid hist
        have HB := hid hb
        clear hist hp2 hb
        go_wp2_with (first | (go_at_call 65; ((with_reducible refine (HMANY.out _).mono ?_); rintro e w1 ⟨rfl, hb1⟩; clear q0 q1 q2 q3 q4; obtain ⟨q0, q1, q2, q3, q4⟩ := cells5 (hb1.heap hQ.out))) | (go_at_call 95; ((with_reducible refine (HNTH.out _ k (by omega)).mono ?_); rintro e w2 ⟨⟨B2, d2, rfl, ho2⟩, hb2⟩; have HO2 := hid ho2; clear ho2 q0 q1 q2 q3 q4; obtain ⟨q0, q1, q2, q3, q4⟩ := cells5 ((hb1.trans hb2).heap hQ.out))) | (go_at_call 27; ((with_reducible refine (HIST.out _ _ _ _ (hB.trans (hb1.trans hb2)) (sl_own (by decide) (fun _ _ => rfl) (by omega) HO2.out)).mono ?_); rintro e w3 ⟨rfl, hb3⟩)))
        have hE3 := (hb1.trans hb2).trans hb3
        refine ⟨⟨k + 1, vs, xss, by go_num, by omega, hB.trans hE3, hid (hE3.heap hQ.out), hown.ev hE3, by omega, hid (hR.out.ev hE3), hid ?_⟩, by simp [intOf]; omega⟩
        have := HP2.out
        rw [HB.out] at this
        exact this
      | true =>
        rw [hb] at hist
        have HIST := hid hist
        have HB := hid hb
        clear hist hp2 hb
        have hbs := hB.size
        go_wp2_with (first | (go_at_call 65; ((with_reducible refine (HMANY.out _).mono ?_); rintro e w1 ⟨rfl, hb1⟩; clear q0 q1 q2 q3 q4; obtain ⟨q0, q1, q2, q3, q4⟩ := cells5 (hb1.heap hQ.out))) | (go_at_call 95; ((with_reducible refine (HNTH.out _ k (by omega)).mono ?_); rintro e w2 ⟨⟨B2, d2, rfl, ho2⟩, hb2⟩; have HO2 := hid ho2; clear ho2 q0 q1 q2 q3 q4; obtain ⟨q0, q1, q2, q3, q4⟩ := cells5 ((hb1.trans hb2).heap hQ.out))) | (go_at_call 27; ((with_reducible refine (HIST.out _ _ _ _ (hB.trans (hb1.trans hb2)) (sl_own (by decide) (fun _ _ => rfl) (by omega) HO2.out)).mono ?_); rintro e w3 ⟨rfl, hb3⟩; have hE3 := (hb1.trans hb2).trans hb3; have hz3 := hE3.size)) | (at_builtin; refine wpList_append_own _ rfl (.tmp 18) (.tmp 20) 44 rfl (w.heap.size + 1) 27 i0 _ 1 24 Try.underlying44 hi0 hz0 hz1 hz2 rfl (by decide) _ vs.length (vs.flatMap hdc) rfl ((hown.ev hE3).alloc _) ⟨w3.heap.size, 0, none⟩ 1 1 [.slice B2 f.rows.toNat d2] rfl rfl (news_in (alloc1 w3 _).1) (by simp [Value.oneCell']) (by unfold maxLen; omega) (by omega) (by simp; omega) ?_; intro v' w4 hown' hgrow _))
        have hownA := (hown.ev hE3).alloc (.cells #[.slice B2 f.rows.toNat d2] 27)
        have hE4 := Ev.grown ((hB.trans hE3).alloc _) hgrow (fun k e => by have := (hown.lt k e).1; omega)
        refine ⟨⟨k + 1, vs ++ [(B2, f.rows.toNat, d2)], xss ++ [M.nth f k], by go_num, by omega, hE4, hid ?_, ?_, by simp; omega, hid ?_, hid ?_⟩, by simp [intOf]; omega⟩
        · refine (hgrow.block _ (by simp; omega) (fun e => by have := (hown.lt _ e.symm).1; omega)).trans ((Ev.alloc (Ev.refl _) _).heap (hE3.heap hQ.out))
        · rw [List.flatMap_append, List.length_append]
          exact hown'
        · refine Rows2.snoc ?_ (Rows2.imp (fun v x h => h.grown hownA hgrow) ((hR.out.ev hE3).ev (Ev.alloc (Ev.refl _) _)))
          exact IRow.grown (IRow.ev ⟨HO2.out.ev hb3, by show f.rows.toNat ≤ _; omega⟩ (Ev.alloc (Ev.refl _) _)) hownA hgrow
        · have := HP2.out
          rw [HB.out] at this
          rw [List.append_assoc]
          exact this
    · have hkP : k = P := by omega
      subst hkP
      have hp2 := hp.out
      rw [Nat.sub_self] at hp2
      have hp3 : xss = M.rtruths f := by rw [← hp2]; simp [M.rtruthsK]
      obtain ⟨B, d, rfl, hsl⟩ := Sl.of_own (enc := hdc) (sz := 1) (by decide) (hdc_len _) (by omega) hown
      have hll : LL wr B vs.length d (M.rtruths f) := ⟨vs, hsl, by rw [← hp3]; exact hR.out⟩
      have HS := hid hll
      clear hsl hp2 hp3 hown hll
      go_wp2_with (go_at_call 65; ((with_reducible refine (HMANY.out _).mono ?_); rintro e w1 ⟨rfl, hb1⟩))
      go_ret
      exact ⟨⟨B, _, d, rfl, HS.out.ev hb1⟩, hB.trans hb1⟩

end Go.Proofs.Ytcecmphdmpeibaa
