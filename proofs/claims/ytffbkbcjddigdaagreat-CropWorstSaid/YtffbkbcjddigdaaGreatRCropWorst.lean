import Derived.Test.YtffbkbcjddigdaaGreatQWorst
import Derived.Test.YtffbkbcjddigdaaGreatP1
/- CropWorst: for every field, list and number, the truth that is returned has the sure worth of the plan, and the worth is proved to be at least the number just if it is so, or the error is that of the document. No condition. -/
namespace Go.Proofs.YtffbkbcjddigdaaGreat
open Go.ChangeShapes Go.WideShapes Go.ChangeAt Go.RowKit

set_option maxRecDepth 100000 in
theorem cropWorst_lifted (os : Os) (started : os.Started) (H : Type) (enc : TypeId × Value → H) :
  ReturnsInHanded {} Tryz.checked os 5 .any (Rows.cropWorstSpec.pre6 enc Tryz.prog Tryz.f5 Rows.cropWorstRow.domain false) (Rows.cropWorstSpec.post enc Tryz.prog Tryz.f5 false true false false) := by
 refine returnsInHanded_of_change (C := Tryz.checked) ownNone started (by kernel_rfl) Tryz.func5
  (ChangeSpec.witness6 (enc := enc) (C := Tryz.checked) false ⟨#[], #[.agg #[.int .i64 0, .slice none 0 0, .slice none 0 0, .slice none 0 0, .slice none 0 0, .int .i64 0, .int .i64 0, .int .i64 0, .slice none 0 0], .slice none 0 0, .int .i64 0], []⟩ 8 (by kernel_rfl) (by kernel_rfl) (by kernel_rfl) (by kernel_rfl)) ?_
 intro W base args ds gs before hval0 hW hcnd _
 have hval : ∀ (j : Nat) t v, Tryz.f5.params[j]? = some t → args[j]? = some v → Value.okWide Tryz.prog W .any base t v := hval0
 have hW' := hW
 obtain ⟨p, q, hA0, hV, rfl, hfz, hnd⟩ := hW
 have hA : DataW.TrodAll enc Tryz.prog W 0 (fun _ => true) true Tryz.f5.params.toList args.toList ds p := hA0
 rw [Tryz.params5] at hA hval
 obtain ⟨v0, v1, v2, d0, d1, d2, p0, p1, p2, rfl, rfl, rfl, h0, h1, h2⟩ := trodAll_three hA
 obtain ⟨rfl, rfl⟩ := trodVars_none hV
 obtain ⟨f, Ag, Aw, Ab, Ac, Al, ng, cg, nw, cw, nb, cb, nc, cc, nl, cl, rfl, hl0, hlen, hs⟩ := field_of (hval 0 26 v0 rfl rfl) h0
 obtain ⟨B1, m1, c1, l1, rfl, hmc1, hcm1, _, hn1, hl1, wf1⟩ := ints_of (hval 1 23 v1 rfl rfl) h1
 obtain ⟨a2, rfl, rfl, rfl, w2⟩ := open_int Tryz.underlying3 (hval 2 3 v2 rfl rfl) h2
 clear hA0 hval0
 refine (cropWorst_c f Ag Aw Ab Ac Al ng cg nw cw nb cb nc cc nl cl B1 m1 c1 l1 a2 hl0 W hs (fun h => hl1 (by omega))).mono fun e W' ⟨he, hg⟩ => ?_
 subst he
 exact ⟨_, rfl, law_post laidOut (by kernel_rfl) rfl hW' rfl hg (tb := 4) (by kernel_rfl) Tryz.underlying4⟩

theorem cropWorst_holds : Rows.CropWorstSaid :=
 OpenClaim.holds_of_wide 5 Tryz.f5 rfl rfl rfl rfl rfl rfl rfl ⟨rfl, rfl, rfl, rfl, rfl⟩ rfl rfl rfl rfl rfl (by kernel_rfl) Tryz.func5 (by kernel_rfl)
  (of_decide_eq_true (by kernel_rfl)) (by unfold Func.isWrapper; first | (rw [if_pos (by decide +kernel)]; kernel_rfl) | (rw [if_neg (by decide +kernel)]; exact ⟨rfl, rfl⟩))
  (fun os started H enc _ => cropWorst_lifted os started H enc)
#print axioms cropWorst_holds
end Go.Proofs.YtffbkbcjddigdaaGreat
