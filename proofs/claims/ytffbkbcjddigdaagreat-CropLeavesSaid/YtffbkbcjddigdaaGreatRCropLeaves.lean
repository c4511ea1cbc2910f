import Derived.Test.YtffbkbcjddigdaaGreatQLeaves
import Derived.Test.YtffbkbcjddigdaaGreatP1
/- CropLeaves: for every field, the first wrong look, and the smallest set of looks that can be left out, are those of the document, or the error is. No condition. -/
namespace Go.Proofs.YtffbkbcjddigdaaGreat
open Go.ChangeShapes Go.WideShapes Go.ChangeAt Go.RowKit

set_option maxRecDepth 100000 in
theorem cropLeaves_lifted (os : Os) (started : os.Started) (H : Type) (enc : TypeId × Value → H) :
  ReturnsInHanded {} Tryz.checked os 7 .any (Rows.cropLeavesSpec.pre6 enc Tryz.prog Tryz.f7 Rows.cropLeavesRow.domain false) (Rows.cropLeavesSpec.post enc Tryz.prog Tryz.f7 false true false false) := by
 refine returnsInHanded_of_change (C := Tryz.checked) ownNone started (by kernel_rfl) Tryz.func7
  (ChangeSpec.witness6 (enc := enc) (C := Tryz.checked) false ⟨#[], #[.agg #[.int .i64 0, .slice none 0 0, .slice none 0 0, .slice none 0 0, .slice none 0 0, .int .i64 0, .int .i64 0, .int .i64 0, .slice none 0 0]], []⟩ 8 (by kernel_rfl) (by kernel_rfl) (by kernel_rfl) (by kernel_rfl)) ?_
 intro W base args ds gs before hval0 hW hcnd _
 have hval : ∀ (j : Nat) t v, Tryz.f7.params[j]? = some t → args[j]? = some v → Value.okWide Tryz.prog W .any base t v := hval0
 have hW' := hW
 obtain ⟨p, q, hA0, hV, rfl, hfz, hnd⟩ := hW
 have hA : DataW.TrodAll enc Tryz.prog W 0 (fun _ => true) true Tryz.f7.params.toList args.toList ds p := hA0
 rw [Tryz.params7] at hA hval
 obtain ⟨v0, d0, rfl, rfl, h0⟩ := trodAll_one hA
 obtain ⟨rfl, rfl⟩ := trodVars_none hV
 obtain ⟨f, Ag, Aw, Ab, Ac, Al, ng, cg, nw, cw, nb, cb, nc, cc, nl, cl, rfl, hl0, hlen, hs⟩ := field_of (hval 0 26 v0 rfl rfl) h0
 clear hA0 hval0
 refine (cropLeaves_c f Ag Aw Ab Ac Al ng cg nw cw nb cb nc cc nl cl hl0 W hs).mono fun e W' ⟨he, hg⟩ => ?_
 subst he
 exact ⟨_, rfl, law_post laidOut (by kernel_rfl) rfl hW' rfl hg (tb := 4) (by kernel_rfl) Tryz.underlying4⟩

theorem cropLeaves_holds : Rows.CropLeavesSaid :=
 OpenClaim.holds_of_wide 7 Tryz.f7 rfl rfl rfl rfl rfl rfl rfl ⟨rfl, rfl, rfl, rfl, rfl⟩ rfl rfl rfl rfl rfl (by kernel_rfl) Tryz.func7 (by kernel_rfl)
  (of_decide_eq_true (by kernel_rfl)) (by unfold Func.isWrapper; first | (rw [if_pos (by decide +kernel)]; kernel_rfl) | (rw [if_neg (by decide +kernel)]; exact ⟨rfl, rfl⟩))
  (fun os started H enc _ => cropLeaves_lifted os started H enc)
#print axioms cropLeaves_holds
end Go.Proofs.YtffbkbcjddigdaaGreat
