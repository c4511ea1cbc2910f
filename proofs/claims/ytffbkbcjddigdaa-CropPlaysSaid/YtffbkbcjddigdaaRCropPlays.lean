import Derived.Test.YtffbkbcjddigdaaQPlays
import Derived.Test.YtffbkbcjddigdaaP1
/- CropPlays: for every field, truth and plan, the error of the field, the crops of the plan in the truth, and whether the truth is one of the field, are as the document says, or the error is. No condition. -/
namespace Go.Proofs.Ytffbkbcjddigdaa
open Go.ChangeShapes Go.WideShapes Go.ChangeAt Go.RowKit

set_option maxRecDepth 100000 in
theorem cropPlays_lifted (os : Os) (started : os.Started) (H : Type) (enc : TypeId × Value → H) :
    ReturnsInHanded {} Try.checked os 3 .any (Rows.cropPlaysSpec.pre6 enc Try.prog Try.f3 Rows.cropPlaysRow.domain false) (Rows.cropPlaysSpec.post enc Try.prog Try.f3 false true false false) := by
  refine returnsInHanded_of_change (C := Try.checked) ownNone started (by kernel_rfl) Try.func3
    (ChangeSpec.witness6 (enc := enc) (C := Try.checked) false ⟨#[], #[.agg #[.int .i64 0, .slice none 0 0, .slice none 0 0, .slice none 0 0, .slice none 0 0, .int .i64 0, .int .i64 0, .int .i64 0, .slice none 0 0], .agg #[.slice none 0 0, .slice none 0 0], .slice none 0 0], []⟩ 8 (by kernel_rfl) (by kernel_rfl) (by kernel_rfl) (by kernel_rfl)) ?_
  intro W base args ds gs before hval0 hW hcnd _
  have hval : ∀ (j : Nat) t v, Try.f3.params[j]? = some t → args[j]? = some v → Value.okWide Try.prog W .any base t v := hval0
  have hW' := hW
  obtain ⟨p, q, hA0, hV, rfl, hfz, hnd⟩ := hW
  have hA : DataW.TrodAll enc Try.prog W 0 (fun _ => true) true Try.f3.params.toList args.toList ds p := hA0
  rw [Try.params3] at hA hval
  obtain ⟨v0, v1, v2, d0, d1, d2, p0, p1, p2, rfl, rfl, rfl, h0, h1, h2⟩ := trodAll_three hA
  obtain ⟨rfl, rfl⟩ := trodVars_none hV
  obtain ⟨f, Ag, Aw, Ab, Ac, Al, ng, cg, nw, cw, nb, cb, nc, cc, nl, cl, rfl, hl0, hlen, hs⟩ := field_of (hval 0 26 v0 rfl rfl) h0
  obtain ⟨t1, Tg1, Tw1, tg1, tgc1, tw1, twc1, rfl, hg1, hw1⟩ := truth_of (hval 1 28 v1 rfl rfl) h1
  obtain ⟨B2, m2, c2, l2, rfl, hmc2, hcm2, _, hn2, hl2, wf2⟩ := ints_of (hval 2 23 v2 rfl rfl) h2
  clear hA0 hval0
  refine (cropPlays_c f Ag Aw Ab Ac Al ng cg nw cw nb cb nc cc nl cl Tg1 Tw1 tg1 tgc1 tw1 twc1 t1 B2 m2 c2 l2 hl0 W hs hg1 hw1 (fun h => hl2 (by omega))).mono fun e W' ⟨he, hg⟩ => ?_
  subst he
  exact ⟨_, rfl, law_post laidOut (by kernel_rfl) rfl hW' rfl hg (tb := 4) (by kernel_rfl) Try.underlying4⟩

theorem cropPlays_holds : Rows.CropPlaysSaid :=
  OpenClaim.holds_of_wide 3 Try.f3 rfl rfl rfl rfl rfl rfl rfl ⟨rfl, rfl, rfl, rfl, rfl⟩ rfl rfl rfl rfl rfl (by kernel_rfl) Try.func3 (by kernel_rfl)
    (of_decide_eq_true (by kernel_rfl)) (by unfold Func.isWrapper; first | (rw [if_pos (by decide +kernel)]; kernel_rfl) | (rw [if_neg (by decide +kernel)]; exact ⟨rfl, rfl⟩))
    (fun os started H enc _ => cropPlays_lifted os started H enc)
#print axioms cropPlays_holds
end Go.Proofs.Ytffbkbcjddigdaa
