import Derived.Test.YtcecmphdmpeibaaL9
import Derived.Test.YtcecmphdmpeibaaU5
namespace Go.Proofs.Ytcecmphdmpeibaa
open Go.RowKit

theorem ics_len (ys : List Int) : ∀ y ∈ ys, (ics y).length = 1 := fun _ _ => rfl

set_option maxRecDepth 100000 in
set_option maxHeartbeats 1000000 in
theorem list_c (A : Option Addr) (m c : Nat) (l : List Int) (hm : m ≤ 1000) (hnil : A = none → c = 0) (w : World) (hs : Sl ics 1 w w.heap.size A m c l) :
    Calls Try.prog 26 #[.slice A m c] w fun e w' => (∃ B d, e = .returned (.slice B m d) ∧ Sl ics 1 w' w'.heap.size B m d l) ∧ Ev w w' := by
  obtain ⟨i0, hi0, hz0, hz1, hz2⟩ := info_parts info3
  have HS := hid hs
  clear hs
  go_enter Try.func26, Try.ntmps26
  go_wp2_with (at_builtin; refine append_sl (enc := ics) rfl (.tmp 3) (.tmp 4) 27 rfl w.heap.size 3 i0 _ 1 8 Try.underlying27 hi0 hz0 hz1 hz2 rfl (by decide) _ 0 [] rfl (World.ownsRow_lit w _ 0 (Nat.le_refl _) (by decide) rfl) A m c l _ rfl (HS.out.ev (Ev.alloc (Ev.refl _) _)) (ics_len _) (ics_one l) hnil (by unfold maxLen; omega) (by omega) (by simp) ?_; intro v' w3 hown' hgrow; have hown2 : w3.ownsRow w.heap.size 3 1 v' m (l.flatMap ics) := (by simpa using hown'); obtain ⟨B, d, rfl, hsl⟩ := Sl.of_own (enc := ics) (sz := 1) (by decide) (ics_len _) (by omega) hown2; have HG := hid hgrow; have HSL := hid hsl; clear hown' hown2 hgrow hsl)
  go_ret
  refine ⟨⟨B, d, rfl, ?_⟩, ?_⟩
  · exact HSL.out
  · exact Ev.grown (Ev.alloc (Ev.refl _) _) HG.out (fun k e => by have e2 : some w.heap.size = some k := e; simp at e2; omega)

end Go.Proofs.Ytcecmphdmpeibaa
