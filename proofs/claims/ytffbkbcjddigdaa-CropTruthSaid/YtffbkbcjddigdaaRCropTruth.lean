import Derived.Test.YtffbkbcjddigdaaQTruth
import Derived.Test.YtffbkbcjddigdaaP8
/- CropTruth: for every field that is ready, with looks that are right in a truth of it, each weight and each worth is within its bounds, by any plan; the worth of a plan is the sum of those of its crops; no look need be left out. No condition. -/
namespace Go.Proofs.Ytffbkbcjddigdaa
open Go.ChangeShapes Go.WideShapes Go.ChangeAt Go.RowKit

set_option maxRecDepth 100000 in
theorem cropTruth_lifted (os : Os) (started : os.Started) (H : Type) (enc : TypeId × Value → H) :
  ReturnsInHanded {} Try.checked os 5 .any (Rows.cropTruthSpec.pre6 enc Try.prog Try.f5 Rows.cropTruthRow.domain false) (Rows.cropTruthSpec.post enc Try.prog Try.f5 false true false false) := by
 refine returnsInHanded_of_change (C := Try.checked) ownNone started (by kernel_rfl) Try.func5
  (ChangeSpec.witness6 (enc := enc) (C := Try.checked) false ⟨#[], #[.agg #[.int .i64 0, .slice none 0 0, .slice none 0 0, .slice none 0 0, .slice none 0 0, .int .i64 0, .int .i64 0, .int .i64 0, .slice none 0 0], .int .u16 0, .slice none 0 0, .int .u16 0], []⟩ 8 (by kernel_rfl) (by kernel_rfl) (by kernel_rfl) (by kernel_rfl)) ?_
 intro W base args ds gs before hval0 hW hcnd _
 have hval : ∀ (j : Nat) t v, Try.f5.params[j]? = some t → args[j]? = some v → Value.okWide Try.prog W .any base t v := hval0
 have hW' := hW
 obtain ⟨p, q, hA0, hV, rfl, hfz, hnd⟩ := hW
 have hA : DataW.TrodAll enc Try.prog W 0 (fun _ => true) true Try.f5.params.toList args.toList ds p := hA0
 rw [Try.params5] at hA hval
 obtain ⟨v0, v1, v2, v3, d0, d1, d2, d3, p0, p1, p2, p3, rfl, rfl, rfl, h0, h1, h2, h3⟩ := trodAll_four hA
 obtain ⟨rfl, rfl⟩ := trodVars_none hV
 obtain ⟨f, Ag, Aw, Ab, Ac, Al, ng, cg, nw, cw, nb, cb, nc, cc, nl, cl, rfl, hl0, hlen, hs⟩ := field_of (hval 0 26 v0 rfl rfl) h0
 obtain ⟨a1, rfl, rfl, rfl, w1⟩ := open_int Try.underlying74 (hval 1 74 v1 rfl rfl) h1
 obtain ⟨B2, m2, c2, l2, rfl, hmc2, hcm2, hsl2, hws2⟩ := words_of0 (hval 2 75 v2 rfl rfl) h2
 obtain ⟨a3, rfl, rfl, rfl, w3⟩ := open_int Try.underlying74 (hval 3 74 v3 rfl rfl) h3
 clear hA0 hval0
 refine (cropTruth_c f Ag Aw Ab Ac Al ng cg nw cw nb cb nc cc nl cl hl0 a1 a3 (u16_bd w1).1 (u16_bd w1).2 (u16_bd w3).1 (u16_bd w3).2 B2 m2 c2 l2 hws2 hmc2 hcm2 W hsl2 hs).mono fun e W' ⟨he, hg⟩ => ?_
 subst he
 exact ⟨_, rfl, law_post laidOut (by kernel_rfl) rfl hW' rfl hg (tb := 4) (by kernel_rfl) Try.underlying4⟩

theorem cropTruth_holds : Rows.CropTruthSaid :=
 OpenClaim.holds_of_wide 5 Try.f5 rfl rfl rfl rfl rfl rfl rfl ⟨rfl, rfl, rfl, rfl, rfl⟩ rfl rfl rfl rfl rfl (by kernel_rfl) Try.func5 (by kernel_rfl)
  (of_decide_eq_true (by kernel_rfl)) (by unfold Func.isWrapper; first | (rw [if_pos (by decide +kernel)]; kernel_rfl) | (rw [if_neg (by decide +kernel)]; exact ⟨rfl, rfl⟩))
  (fun os started H enc _ => cropTruth_lifted os started H enc)
#print axioms cropTruth_holds
end Go.Proofs.Ytffbkbcjddigdaa
