import Derived.Test.YtffbkbcjddigdaaGreatQGreatest
import Derived.Test.YtffbkbcjddigdaaGreatP1
/- CropGreatest: for every field that is ready, the best plan has its sure worth in each truth, or more; no plan has a greater one, nor as great a one and is lexicographically before it; the worst truth has the sure worth. No condition. -/
namespace Go.Proofs.YtffbkbcjddigdaaGreat
open Go.ChangeShapes Go.WideShapes Go.ChangeAt Go.RowKit

set_option maxRecDepth 100000 in
theorem cropGreatest_lifted (os : Os) (started : os.Started) (H : Type) (enc : TypeId × Value → H) :
  ReturnsInHanded {} Tryz.checked os 9 .any (Rows.cropGreatestSpec.pre6 enc Tryz.prog Tryz.f9 Rows.cropGreatestRow.domain false) (Rows.cropGreatestSpec.post enc Tryz.prog Tryz.f9 false true false false) := by
 refine returnsInHanded_of_change (C := Tryz.checked) ownNone started (by kernel_rfl) Tryz.func9
  (ChangeSpec.witness6 (enc := enc) (C := Tryz.checked) false ⟨#[], #[.agg #[.int .i64 0, .slice none 0 0, .slice none 0 0, .slice none 0 0, .slice none 0 0, .int .i64 0, .int .i64 0, .int .i64 0, .slice none 0 0], .int .u16 0, .int .u16 0], []⟩ 8 (by kernel_rfl) (by kernel_rfl) (by kernel_rfl) (by kernel_rfl)) ?_
 intro W base args ds gs before hval0 hW hcnd _
 have hval : ∀ (j : Nat) t v, Tryz.f9.params[j]? = some t → args[j]? = some v → Value.okWide Tryz.prog W .any base t v := hval0
 have hW' := hW
 obtain ⟨p, q, hA0, hV, rfl, hfz, hnd⟩ := hW
 have hA : DataW.TrodAll enc Tryz.prog W 0 (fun _ => true) true Tryz.f9.params.toList args.toList ds p := hA0
 rw [Tryz.params9] at hA hval
 obtain ⟨v0, v1, v2, d0, d1, d2, p0, p1, p2, rfl, rfl, rfl, h0, h1, h2⟩ := trodAll_three hA
 obtain ⟨rfl, rfl⟩ := trodVars_none hV
 obtain ⟨f, Ag, Aw, Ab, Ac, Al, ng, cg, nw, cw, nb, cb, nc, cc, nl, cl, rfl, hl0, hlen, hs⟩ := field_of (hval 0 26 v0 rfl rfl) h0
 obtain ⟨a1, rfl, rfl, rfl, w1⟩ := open_int Tryz.underlying81 (hval 1 81 v1 rfl rfl) h1
 obtain ⟨a2, rfl, rfl, rfl, w2⟩ := open_int Tryz.underlying81 (hval 2 81 v2 rfl rfl) h2
 clear hA0 hval0
 refine (cropGreatest_c f Ag Aw Ab Ac Al ng cg nw cw nb cb nc cc nl cl hl0 a1 a2 (u16_bd w1).1 (u16_bd w1).2 (u16_bd w2).1 (u16_bd w2).2 W hs).mono fun e W' ⟨he, hg⟩ => ?_
 subst he
 exact ⟨_, rfl, law_post laidOut (by kernel_rfl) rfl hW' rfl hg (tb := 4) (by kernel_rfl) Tryz.underlying4⟩

theorem cropGreatest_holds : Rows.CropGreatestSaid :=
 OpenClaim.holds_of_wide 9 Tryz.f9 rfl rfl rfl rfl rfl rfl rfl ⟨rfl, rfl, rfl, rfl, rfl⟩ rfl rfl rfl rfl rfl (by kernel_rfl) Tryz.func9 (by kernel_rfl)
  (of_decide_eq_true (by kernel_rfl)) (by unfold Func.isWrapper; first | (rw [if_pos (by decide +kernel)]; kernel_rfl) | (rw [if_neg (by decide +kernel)]; exact ⟨rfl, rfl⟩))
  (fun os started H enc _ => cropGreatest_lifted os started H enc)
#print axioms cropGreatest_holds
end Go.Proofs.YtffbkbcjddigdaaGreat
