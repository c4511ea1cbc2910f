import Derived.Test.YtgimcephbeajlaaQStill
import Derived.Test.YtgimcephbeajlaaP1
/- CouchStill: for every heap that is ready with Cool made 0, and turnings by bits, turnings change no bounds, and the heap needs none, or none keep it; or it has no truth and the errors say so. No condition. -/
namespace Go.Proofs.Ytgimcephbeajlaa
open Go.ChangeShapes Go.WideShapes Go.ChangeAt Go.RowKit

set_option maxRecDepth 100000 in
theorem couchStill_lifted (os : Os) (started : os.Started) (H : Type) (enc : TypeId × Value → H) :
  ReturnsInHanded {} Try.checked os 17 .any (Rows.couchStillSpec.pre6 enc Try.prog Try.f17 Rows.couchStillRow.domain false) (Rows.couchStillSpec.post enc Try.prog Try.f17 false true false false) := by
 refine returnsInHanded_of_change (C := Try.checked) ownNone started (by kernel_rfl) Try.func17
  (ChangeSpec.witness6 (enc := enc) (C := Try.checked) false ⟨#[], #[.agg #[.int .i64 0, .int .i64 0, .int .i64 0, .int .i64 0, .int .i64 0, .int .i64 0, .int .i64 0, .slice none 0 0, .slice none 0 0, .slice none 0 0], .int .u16 0], []⟩ 8 (by kernel_rfl) (by kernel_rfl) (by kernel_rfl) (by kernel_rfl)) ?_
 intro W base args ds gs before hval0 hW hcnd _
 have hval : ∀ (j : Nat) t v, Try.f17.params[j]? = some t → args[j]? = some v → Value.okWide Try.prog W .any base t v := hval0
 have hW' := hW
 obtain ⟨p, q, hA0, hV, rfl, hfz, hnd⟩ := hW
 have hA : DataW.TrodAll enc Try.prog W 0 (fun _ => true) true Try.f17.params.toList args.toList ds p := hA0
 rw [Try.params17] at hA hval
 obtain ⟨v0, v1, d0, d1, p0, p1, rfl, rfl, rfl, h0, h1⟩ := trodAll_two hA
 obtain ⟨rfl, rfl⟩ := trodVars_none hV
 obtain ⟨f, Aw, At, Ar, nw, cw, nt, ct, nr, cr, rfl, hl0, hlen, hs⟩ := heap_of (hval 0 28 v0 rfl rfl) h0
 obtain ⟨a1, rfl, rfl, rfl, w1⟩ := open_int Try.underlying81 (hval 1 81 v1 rfl rfl) h1
 clear hA0 hval0
 refine (couchStill_i f Aw At Ar nw cw nt ct nr cr hl0 a1 (u16_bd w1).1 (u16_bd w1).2 W hs).mono fun e W' ⟨he, hg⟩ => ?_
 subst he
 exact ⟨_, rfl, law_post laidOut (by kernel_rfl) rfl hW' rfl hg (tb := 4) (by kernel_rfl) Try.underlying4⟩

theorem couchStill_holds : Rows.CouchStillSaid :=
 OpenClaim.holds_of_wide 17 Try.f17 rfl rfl rfl rfl rfl rfl rfl ⟨rfl, rfl, rfl, rfl, rfl⟩ rfl rfl rfl rfl rfl (by kernel_rfl) Try.func17 (by kernel_rfl)
  (of_decide_eq_true (by kernel_rfl)) (by unfold Func.isWrapper; first | (rw [if_pos (by decide +kernel)]; kernel_rfl) | (rw [if_neg (by decide +kernel)]; exact ⟨rfl, rfl⟩))
  (fun os started H enc _ => couchStill_lifted os started H enc)
#print axioms couchStill_holds
end Go.Proofs.Ytgimcephbeajlaa
