import Derived.Test.YtgimcephbeajlaaQMore
import Derived.Test.YtgimcephbeajlaaP9
/- CouchMore: for every heap, one more reading and turnings by bits, with one more reading no bounds are wider, what always or never keeps the heap still does, no more turnings are needed, as many readings have to be left out or one more. No condition. -/
namespace Go.Proofs.Ytgimcephbeajlaa
open Go.ChangeShapes Go.WideShapes Go.ChangeAt Go.RowKit

set_option maxRecDepth 100000 in
theorem couchMore_lifted (os : Os) (started : os.Started) (H : Type) (enc : TypeId × Value → H) :
  ReturnsInHanded {} Try.checked os 13 .any (Rows.couchMoreSpec.pre6 enc Try.prog Try.f13 Rows.couchMoreRow.domain false) (Rows.couchMoreSpec.post enc Try.prog Try.f13 false true false false) := by
 refine returnsInHanded_of_change_sized (C := Try.checked) ownNone started (by kernel_rfl) Try.func13
  (ChangeSpec.witness6 (enc := enc) (C := Try.checked) false ⟨#[], #[.agg #[.int .i64 0, .int .i64 0, .int .i64 0, .int .i64 0, .int .i64 0, .int .i64 0, .int .i64 0, .slice none 0 0, .slice none 0 0, .slice none 0 0], .agg #[.int .i64 0, .int .i64 0, .int .i64 0], .int .u16 0], []⟩ 8 (by kernel_rfl) (by kernel_rfl) (by kernel_rfl) (by kernel_rfl)) ?_
 intro W base args ds gs before hval0 hW hcnd hsz0 _
 have hval : ∀ (j : Nat) t v, Try.f13.params[j]? = some t → args[j]? = some v → Value.okWide Try.prog W .any base t v := hval0
 have hW' := hW
 obtain ⟨p, q, hA0, hV, rfl, hfz, hnd⟩ := hW
 have hA : DataW.TrodAll enc Try.prog W 0 (fun _ => true) true Try.f13.params.toList args.toList ds p := hA0
 have hsz : (DataW.weightsEach Try.prog (Try.f13.params.toList ++ Rows.couchMoreSpec.plain.varTypes Try.prog) (ds ++ gs)).all (· ≤ reachBytes) = true := hsz0
 rw [Try.params13] at hA hval hsz
 obtain ⟨v0, v1, v2, d0, d1, d2, p0, p1, p2, rfl, rfl, rfl, h0, h1, h2⟩ := trodAll_three hA
 obtain ⟨rfl, rfl⟩ := trodVars_none hV
 obtain ⟨f, Aw, At, Ar, nw, cw, nt, ct, nr, cr, rfl, hl0, hlen, hs, hncl, hsl, hw⟩ := heap_ofR (hval 0 28 v0 rfl rfl) h0
 obtain ⟨k1, rfl⟩ := readv_of (hval 1 96 v1 rfl rfl) h1
 obtain ⟨a2, rfl, rfl, rfl, w2⟩ := open_int Try.underlying81 (hval 2 81 v2 rfl rfl) h2
 have hc := reads_size (j := 0) hsz rfl rfl hw
 clear hA0 hval0 hsz0
 refine (couchMore_i f k1 Aw At Ar nw cw nt ct nr cr hl0 a2 (u16_bd w2).1 (u16_bd w2).2 hncl (by omega) W (hid hsl) hs).mono fun e W' ⟨he, hg⟩ => ?_
 subst he
 exact ⟨_, rfl, law_post laidOut (by kernel_rfl) rfl hW' rfl hg (tb := 4) (by kernel_rfl) Try.underlying4⟩

theorem couchMore_holds : Rows.CouchMoreSaid :=
 OpenClaim.holds_of_wide 13 Try.f13 rfl rfl rfl rfl rfl rfl rfl ⟨rfl, rfl, rfl, rfl, rfl⟩ rfl rfl rfl rfl rfl (by kernel_rfl) Try.func13 (by kernel_rfl)
  (of_decide_eq_true (by kernel_rfl)) (by unfold Func.isWrapper; first | (rw [if_pos (by decide +kernel)]; kernel_rfl) | (rw [if_neg (by decide +kernel)]; exact ⟨rfl, rfl⟩))
  (fun os started H enc _ => couchMore_lifted os started H enc)
#print axioms couchMore_holds
end Go.Proofs.Ytgimcephbeajlaa
