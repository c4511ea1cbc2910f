import Derived.Test.YtffbkbcjddigdaaGreatQEnds
import Derived.Test.YtffbkbcjddigdaaGreatP1
/- CropEnds: for every field that is ready, both ends of the bounds of a plan's worth, and of its last crop, are reached in some truth: all truths are tried. No condition. -/
namespace Go.Proofs.YtffbkbcjddigdaaGreat
open Go.ChangeShapes Go.WideShapes Go.ChangeAt Go.RowKit

set_option maxRecDepth 100000 in
theorem cropEnds_lifted (os : Os) (started : os.Started) (H : Type) (enc : TypeId × Value → H) :
  ReturnsInHanded {} Tryz.checked os 8 .any (Rows.cropEndsSpec.pre6 enc Tryz.prog Tryz.f8 Rows.cropEndsRow.domain false) (Rows.cropEndsSpec.post enc Tryz.prog Tryz.f8 false true false false) := by
 refine returnsInHanded_of_change (C := Tryz.checked) ownNone started (by kernel_rfl) Tryz.func8
  (ChangeSpec.witness6 (enc := enc) (C := Tryz.checked) false ⟨#[], #[.agg #[.int .i64 0, .slice none 0 0, .slice none 0 0, .slice none 0 0, .slice none 0 0, .int .i64 0, .int .i64 0, .int .i64 0, .slice none 0 0], .int .u16 0], []⟩ 8 (by kernel_rfl) (by kernel_rfl) (by kernel_rfl) (by kernel_rfl)) ?_
 intro W base args ds gs before hval0 hW hcnd _
 have hval : ∀ (j : Nat) t v, Tryz.f8.params[j]? = some t → args[j]? = some v → Value.okWide Tryz.prog W .any base t v := hval0
 have hW' := hW
 obtain ⟨p, q, hA0, hV, rfl, hfz, hnd⟩ := hW
 have hA : DataW.TrodAll enc Tryz.prog W 0 (fun _ => true) true Tryz.f8.params.toList args.toList ds p := hA0
 rw [Tryz.params8] at hA hval
 obtain ⟨v0, v1, d0, d1, p0, p1, rfl, rfl, rfl, h0, h1⟩ := trodAll_two hA
 obtain ⟨rfl, rfl⟩ := trodVars_none hV
 obtain ⟨f, Ag, Aw, Ab, Ac, Al, ng, cg, nw, cw, nb, cb, nc, cc, nl, cl, rfl, hl0, hlen, hs⟩ := field_of (hval 0 26 v0 rfl rfl) h0
 obtain ⟨a1, rfl, rfl, rfl, w1⟩ := open_int Tryz.underlying81 (hval 1 81 v1 rfl rfl) h1
 clear hA0 hval0
 refine (cropEnds_c f Ag Aw Ab Ac Al ng cg nw cw nb cb nc cc nl cl hl0 a1 (u16_bd w1).1 (u16_bd w1).2 W hs).mono fun e W' ⟨he, hg⟩ => ?_
 subst he
 exact ⟨_, rfl, law_post laidOut (by kernel_rfl) rfl hW' rfl hg (tb := 4) (by kernel_rfl) Tryz.underlying4⟩

theorem cropEnds_holds : Rows.CropEndsSaid :=
 OpenClaim.holds_of_wide 8 Tryz.f8 rfl rfl rfl rfl rfl rfl rfl ⟨rfl, rfl, rfl, rfl, rfl⟩ rfl rfl rfl rfl rfl (by kernel_rfl) Tryz.func8 (by kernel_rfl)
  (of_decide_eq_true (by kernel_rfl)) (by unfold Func.isWrapper; first | (rw [if_pos (by decide +kernel)]; kernel_rfl) | (rw [if_neg (by decide +kernel)]; exact ⟨rfl, rfl⟩))
  (fun os started H enc _ => cropEnds_lifted os started H enc)
#print axioms cropEnds_holds
end Go.Proofs.YtffbkbcjddigdaaGreat
