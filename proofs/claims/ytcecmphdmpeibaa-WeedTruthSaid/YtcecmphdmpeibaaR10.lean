/- WeedTruth: for every field, number and list of words: of the field with other tallies that are right in a list, in that list each weeder's number of rows is within its bounds, what it says of a row is in Who, all rows together are those that were done and those that were left, no tally has to be left out, none is the first wrong one, and the list is proved to be a truth. No condition. -/
import Derived.Test.YtcecmphdmpeibaaQ10
import Derived.Test.YtcecmphdmpeibaaP4
namespace Go.Proofs.Ytcecmphdmpeibaa
open Go.ChangeShapes Go.WideShapes Go.ChangeAt Go.RowKit

set_option maxRecDepth 100000 in
theorem weedTruth_lifted (os : Os) (started : os.Started) (H : Type) (enc : TypeId × Value → H) :
    ReturnsInHanded {} Try.checked os 10 .any (Rows.weedTruthSpec.pre6 enc Try.prog Try.f10 Rows.weedTruthRow.domain false) (Rows.weedTruthSpec.post enc Try.prog Try.f10 false true false false) := by
  refine returnsInHanded_of_change (C := Try.checked) ownNone started (by kernel_rfl) Try.func10
    (ChangeSpec.witness6 (enc := enc) (C := Try.checked) false ⟨#[], #[.agg #[.int .i64 0, .int .i64 0, .int .i64 0, .int .i64 0, .slice none 0 0], .int .u16 0, .slice none 0 0], []⟩ 8 (by kernel_rfl) (by kernel_rfl) (by kernel_rfl) (by kernel_rfl)) ?_
  intro W base args ds gs before hval0 hW hcnd _
  have hval : ∀ (j : Nat) t v, Try.f10.params[j]? = some t → args[j]? = some v → Value.okWide Try.prog W .any base t v := hval0
  have hW' := hW
  obtain ⟨p, q, hA0, hV, rfl, hfz, hnd⟩ := hW
  have hA : DataW.TrodAll enc Try.prog W 0 (fun _ => true) true Try.f10.params.toList args.toList ds p := hA0
  rw [Try.params10] at hA hval
  obtain ⟨v0, v1, v2, d0, d1, d2, p0, p1, p2, rfl, rfl, rfl, h0, h1, h2⟩ := trodAll_three hA
  obtain ⟨rfl, rfl⟩ := trodVars_none hV
  obtain ⟨f, A, n, c, rfl, _, _, _, _, _, _, _, _, hs⟩ := field_of (hval 0 26 v0 rfl rfl) h0
  obtain ⟨a1, rfl, rfl, rfl, w1⟩ := open_int Try.underlying75 (hval 1 75 v1 rfl rfl) h1
  obtain ⟨B2, m2, c2, l2, rfl, hm2, hc2, hl2, wf2⟩ := words_of0 (hval 2 76 v2 rfl rfl) h2
  clear hA0 hval0
  refine (weedTruth_c f A n c a1 (u16_bd w1).1 (u16_bd w1).2 B2 m2 c2 l2 wf2 W (fun h => hs (by omega)) hl2 hm2 hc2).mono fun e W' ⟨he, hg⟩ => ?_
  subst he
  exact ⟨_, rfl, law_post laidOut (by kernel_rfl) rfl hW' rfl hg (tb := 4) (by kernel_rfl) Try.underlying4⟩

theorem weedTruth_holds : Rows.WeedTruthSaid :=
  OpenClaim.holds_of_wide 10 Try.f10 rfl rfl rfl rfl rfl rfl rfl ⟨rfl, rfl, rfl, rfl, rfl⟩ rfl rfl rfl rfl rfl (by kernel_rfl) Try.func10 (by kernel_rfl)
    (of_decide_eq_true (by kernel_rfl)) (by unfold Func.isWrapper; first | (rw [if_pos (by decide +kernel)]; kernel_rfl) | (rw [if_neg (by decide +kernel)]; exact ⟨rfl, rfl⟩))
    (fun os started H enc _ => weedTruth_lifted os started H enc)
#print axioms weedTruth_holds
end Go.Proofs.Ytcecmphdmpeibaa
