import Derived.Test.YtffbkbcjddigdaaA4
set_option linter.unusedSimpArgs false
set_option linter.unusedVariables false
namespace Go.Proofs.Ytffbkbcjddigdaa
open Go.RowKit

/-- The product of sizes passes the limit. -/
def M.tooMany : List M.Rg → Int → Bool
  | [], _ => false
  | r :: rs, m => if 2000 < m * (r.hi - r.lo + 1) then true else M.tooMany rs (m * (r.hi - r.lo + 1))

set_option maxRecDepth 100000 in
set_option maxHeartbeats 1000000 in
theorem hasTooMany_c (f : M.Cf) (Ag Aw Ab Ac Al : Option Addr) (ng cg nw cw nb cb nc cc nl cl : Nat) (hn : ng ≤ 100) (hw : nw ≤ 100) (hr : ∀ r ∈ M.ranges f, 0 ≤ r.lo ∧ r.lo ≤ r.hi ∧ r.hi ≤ 50) (w : World) (hs : CS w w.heap.size f Ag Aw Ab Ac Al ng cg nw cw nb cb nc cc nl cl) :
    Calls Try.prog 61 #[.agg #[.int .i64 f.last, .slice Ag ng cg, .slice Aw nw cw, .slice Ab nb cb, .slice Ac nc cc, .int .i64 f.ripe, .int .i64 f.late, .int .i64 f.trod, .slice Al nl cl]] w fun e w' => e = .returned (.bool (M.tooMany (M.ranges f) 1)) ∧ Ev w w' := by
  have HRG := hid (fun W (hE : Ev w W) => ranges_c f Ag Aw Ab Ac Al ng cg nw cw nb cb nc cc nl cl hn hw W (hs.ev hE))
  have HR := hid hr
  clear hs hr
  generalize hxs : M.ranges f = xs at HRG HR
  clear hxs
  go_enter Try.func61, Try.ntmps61
  go_upto_region 3 with (go_at_call 82; with_reducible refine (HRG.out _ (Ev.alloc (Ev.refl _) _)).mono ?_; rintro e w1 ⟨⟨B, d, rfl, hsl⟩, hb1⟩; have HS := hid hsl; clear hsl)
  have hE1 : Ev w w1 := Ev.trans (Ev.alloc (Ev.refl _) _) hb1
  generalize hN : ng + nw = N at *
  have hN2 : N ≤ 200 := by omega
  have hN3 : ((ng : Int) + nw) = N := by omega
  go_loopw [3, 9] (fun v i wr => ∃ k : Nat, ∃ m : Int, v = .int .i64 m ∧ i = .int .i64 k ∧ k ≤ N ∧ 1 ≤ m ∧ m ≤ 2000 ∧ Ev w1 wr ∧ Hid (M.tooMany (xs.drop k) m = M.tooMany xs 1)) (fun _ i _ => N - (intOf i).toNat)
  case atStart => exact ⟨0, 1, rfl, rfl, by omega, by omega, by omega, Ev.refl _, hid rfl⟩
  case round =>
    obtain ⟨k, m, rfl, rfl, hk, hm0, hm1, hB, hT⟩ := hrel
    by_cases hlt : k < N
    · obtain ⟨b, off, x, rfl, hb, hx, hd, hcc⟩ := HS.out.at_ hB hlt
      have e0 := hcc 0 _ rfl
      have e1 := hcc 1 _ rfl
      simp only [Nat.add_zero] at e0
      have hcap := HS.out.cap
      obtain ⟨x1, x2, x3⟩ := HR.out x (List.mem_of_getElem? hx)
      have hT2 := hT.out
      rw [hd, M.tooMany] at hT2
      have HT2 := hid hT2
      obtain ⟨s, hsz⟩ : ∃ s : Int, x.hi - x.lo = s := ⟨_, rfl⟩
      obtain ⟨s1, hs1⟩ : ∃ s1 : Int, s + 1 = s1 := ⟨_, rfl⟩
      have hs51 : 1 ≤ s1 ∧ s1 ≤ 51 := by omega
      obtain ⟨p, hp⟩ : ∃ p : Int, m * s1 = p := ⟨_, rfl⟩
      have hp0 : 1 ≤ p := by rw [← hp]; exact (by have := Int.mul_le_mul hm0 hs51.1 (by omega) (by omega); omega)
      have hp1 : p ≤ 2000 * 51 := by rw [← hp]; exact Int.mul_le_mul hm1 hs51.2 (by omega) (by omega)
      have g1 : IntKind.i64.wrap s = s := IntWalk.i64_in _ (by omega)
      have g2 : IntKind.i64.wrap s1 = s1 := IntWalk.i64_in _ (by omega)
      have g3 : IntKind.i64.wrap p = p := IntWalk.i64_in _ (by omega)
      have HP := hid (show m * (x.hi - x.lo + 1) = p by rw [hsz, hs1, hp])
      have HEW := hid hB
      clear hx hd hcc hT hT2 x1 x2 x3 hB
      by_cases h2 : 2000 < p
      · go_wp2
        go_ret
        refine ⟨ret_bool ?_, ?_⟩
        · rw [← HT2.out, HP.out, if_pos h2]
        · exact hE1.trans (Ev.alloc HEW.out _)
      · have h3 : p ≤ 2000 := by omega
        go_wp2
        refine ⟨⟨k + 1, p, rfl, by go_num, by omega, hp0, h3, Ev.alloc HEW.out _, hid ?_⟩, by simp [intOf]; omega⟩
        rw [← HT2.out, HP.out, if_neg h2]
    · have hd : xs.drop k = [] := HS.out.done hlt
      have HF := hid (show M.tooMany xs 1 = false by rw [← hT.out, hd]; rfl)
      go_wp2
      go_ret
      exact ⟨ret_bool HF.out.symm, hE1.trans hB⟩

def M.validBase (f : M.Cf) : Bool := decide (1 ≤ f.base.length) && (f.base.all (M.holds ⟨0, 200⟩) && M.falls f.base)
def M.validWeeks (f : M.Cf) : Bool := decide (0 ≤ f.last) && (decide ((f.gr.length : Int) = f.last + 1) && (f.gr.all M.isGrowth && (decide ((f.wet.length : Int) = f.last + 1) && f.wet.all (M.holds ⟨0, 2⟩))))
def M.valid (f : M.Cf) : Bool := M.validWeeks f && (M.validBase f && (M.validCare f && (M.isPlan f f.crops && f.looks.all (M.validLook f))))
def M.check (f : M.Cf) : Int := if 9 < f.last ∨ 3 < f.base.length ∨ 5 < f.looks.length then 3 else if M.valid f = false then 1 else if M.tooMany (M.ranges f) 1 then 3 else 0

set_option maxRecDepth 100000 in
set_option maxHeartbeats 1000000 in
theorem validBase_c (f : M.Cf) (Ag Aw Ab Ac Al : Option Addr) (ng cg nw cw nb cb nc cc nl cl : Nat) (w : World) (hs : CS w w.heap.size f Ag Aw Ab Ac Al ng cg nw cw nb cb nc cc nl cl) :
    Calls Try.prog 92 #[.agg #[.int .i64 f.last, .slice Ag ng cg, .slice Aw nw cw, .slice Ab nb cb, .slice Ac nc cc, .int .i64 f.ripe, .int .i64 f.late, .int .i64 f.trod, .slice Al nl cl]] w fun e w' => e = .returned (.bool (M.validBase f)) ∧ Ev w w' := by
  have hln := hs.b.len
  have hsm := hs.b.small
  have h1 : ∀ W, Ev w W → Calls Try.prog 85 #[.slice Ab nb cb, .func (.func 83) #[.agg #[.int .i64 0, .int .i64 200]] #[]] W fun e w' => e = .returned (.bool (f.base.all (M.holds ⟨0, 200⟩))) ∧ Ev W w' := fun W hE => allHolds_c ⟨0, 200⟩ Ab nb cb f.base W (hs.b.ev hE)
  have h2 := fun W (hE : Ev w W) => sorted_c Ab nb cb f.base W (hs.b.ev hE)
  have HD := hid (show M.validBase f = (decide (1 ≤ nb) && (f.base.all (M.holds ⟨0, 200⟩) && M.falls f.base)) by unfold M.validBase; rw [hln])
  generalize f.base.all (M.holds ⟨0, 200⟩) = a at h1 HD
  generalize M.falls f.base = b at h2 HD
  have H1 := hid h1
  have H2 := hid h2
  clear h1 h2 hs hln
  by_cases h : 1 ≤ nb
  · have g1 : (1 : Int) ≤ nb := by omega
    have g2 : (nb : Int) ≥ 1 := by omega
    rw [decide_eq_true h] at HD
    clear h
    cases a
    all_goals (
      go_enter Try.func92, Try.ntmps92
      go_wp2_with (first | (go_at_call 85; with_reducible refine (H1.out _ (Ev.alloc (Ev.refl _) _)).mono ?_; rintro e w1 ⟨rfl, hb1⟩; have hG : Ev w w1 := Ev.trans (Ev.alloc (Ev.refl _) _) hb1; obtain ⟨y0, y1, y2, y3, y4, y5, y6, y7, y8⟩ := cells9 (hb1.heap (alloc1 w (.cells #[.int .i64 f.last, .slice Ag ng cg, .slice Aw nw cw, .slice Ab nb cb, .slice Ac nc cc, .int .i64 f.ripe, .int .i64 f.late, .int .i64 f.trod, .slice Al nl cl] 38)).1)) | (go_at_call 113; with_reducible refine (H2.out _ hG).mono ?_; rintro e w2 ⟨rfl, hb2⟩; replace hG := hG.trans hb2))
      go_ret
      exact ⟨ret_bool HD.out.symm, hG⟩)
  · have g1 : ¬ ((1 : Int) ≤ nb) := by omega
    have g2 : ¬ ((nb : Int) ≥ 1) := by omega
    have g3 : (nb : Int) < 1 := by omega
    rw [decide_eq_false h] at HD
    clear h
    go_enter Try.func92, Try.ntmps92
    go_wp2
    go_ret
    exact ⟨ret_bool HD.out.symm, Ev.alloc (Ev.refl _) _⟩

set_option maxRecDepth 100000 in
set_option maxHeartbeats 2000000 in
theorem validWeeks_c (f : M.Cf) (Ag Aw Ab Ac Al : Option Addr) (ng cg nw cw nb cb nc cc nl cl : Nat) (hl0 : -9223372036854775808 ≤ f.last) (hl1 : f.last ≤ 9) (w : World) (hs : CS w w.heap.size f Ag Aw Ab Ac Al ng cg nw cw nb cb nc cc nl cl) :
    Calls Try.prog 91 #[.agg #[.int .i64 f.last, .slice Ag ng cg, .slice Aw nw cw, .slice Ab nb cb, .slice Ac nc cc, .int .i64 f.ripe, .int .i64 f.late, .int .i64 f.trod, .slice Al nl cl]] w fun e w' => e = .returned (.bool (M.validWeeks f)) ∧ Ev w w' := by
  have hlg := hs.g.len
  have hlw := hs.w_.len
  have hsg := hs.g.small
  have hsw := hs.w_.small
  have h1 := fun W (hE : Ev w W) => allGrowth_c Ag ng cg f.gr W (hs.g.ev hE)
  have h2 : ∀ W, Ev w W → Calls Try.prog 85 #[.slice Aw nw cw, .func (.func 83) #[.agg #[.int .i64 0, .int .i64 2]] #[]] W fun e w' => e = .returned (.bool (f.wet.all (M.holds ⟨0, 2⟩))) ∧ Ev W w' := fun W hE => allHolds_c ⟨0, 2⟩ Aw nw cw f.wet W (hs.w_.ev hE)
  have HD := hid (show M.validWeeks f = (decide (0 ≤ f.last) && (decide ((ng : Int) = f.last + 1) && (f.gr.all M.isGrowth && (decide ((nw : Int) = f.last + 1) && f.wet.all (M.holds ⟨0, 2⟩))))) by unfold M.validWeeks; rw [hlg, hlw])
  generalize f.gr.all M.isGrowth = a at h1 HD
  generalize f.wet.all (M.holds ⟨0, 2⟩) = b at h2 HD
  have H1 := hid h1
  have H2 := hid h2
  have s1 : IntKind.i64.wrap (f.last + 1) = f.last + 1 := IntWalk.i64_in _ (by omega)
  clear h1 h2 hs hlg hlw
  by_cases q1 : 0 ≤ f.last
  · have q1' : f.last ≥ 0 := q1
    rw [decide_eq_true q1] at HD
    by_cases q2 : (ng : Int) = f.last + 1
    · have q2b : ((ng : Int) == f.last + 1) = true := by simpa using q2
      rw [decide_eq_true q2] at HD
      clear q2
      cases a
      · go_enter Try.func91, Try.ntmps91
        go_wp2_with (first | (go_at_call 109; with_reducible refine (H1.out _ (Ev.alloc (Ev.refl _) _)).mono ?_; rintro e w1 ⟨rfl, hb1⟩; have hG : Ev w w1 := Ev.trans (Ev.alloc (Ev.refl _) _) hb1))
        go_ret
        exact ⟨ret_bool HD.out.symm, hG⟩
      · by_cases q3 : (nw : Int) = f.last + 1
        · have q3b : ((nw : Int) == f.last + 1) = true := by simpa using q3
          rw [decide_eq_true q3] at HD
          clear q3
          go_enter Try.func91, Try.ntmps91
          go_wp2_with (first | (go_at_call 109; with_reducible refine (H1.out _ (Ev.alloc (Ev.refl _) _)).mono ?_; rintro e w1 ⟨rfl, hb1⟩; have hG : Ev w w1 := Ev.trans (Ev.alloc (Ev.refl _) _) hb1; obtain ⟨y0, y1, y2, y3, y4, y5, y6, y7, y8⟩ := cells9 (hb1.heap (alloc1 w (.cells #[.int .i64 f.last, .slice Ag ng cg, .slice Aw nw cw, .slice Ab nb cb, .slice Ac nc cc, .int .i64 f.ripe, .int .i64 f.late, .int .i64 f.trod, .slice Al nl cl] 38)).1)) | (go_at_call 85; with_reducible refine (H2.out _ hG).mono ?_; rintro e w2 ⟨rfl, hb2⟩; replace hG := hG.trans hb2))
          go_ret
          exact ⟨ret_bool HD.out.symm, hG⟩
        · have q3b : ((nw : Int) == f.last + 1) = false := by simpa using q3
          rw [decide_eq_false q3] at HD
          clear q3
          go_enter Try.func91, Try.ntmps91
          go_wp2_with (first | (go_at_call 109; with_reducible refine (H1.out _ (Ev.alloc (Ev.refl _) _)).mono ?_; rintro e w1 ⟨rfl, hb1⟩; have hG : Ev w w1 := Ev.trans (Ev.alloc (Ev.refl _) _) hb1; obtain ⟨y0, y1, y2, y3, y4, y5, y6, y7, y8⟩ := cells9 (hb1.heap (alloc1 w (.cells #[.int .i64 f.last, .slice Ag ng cg, .slice Aw nw cw, .slice Ab nb cb, .slice Ac nc cc, .int .i64 f.ripe, .int .i64 f.late, .int .i64 f.trod, .slice Al nl cl] 38)).1)))
          go_ret
          exact ⟨ret_bool HD.out.symm, hG⟩
    · have q2b : ((ng : Int) == f.last + 1) = false := by simpa using q2
      rw [decide_eq_false q2] at HD
      clear q2
      go_enter Try.func91, Try.ntmps91
      go_wp2
      go_ret
      exact ⟨ret_bool HD.out.symm, Ev.alloc (Ev.refl _) _⟩
  · have q1' : ¬ (f.last ≥ 0) := q1
    have q1'' : f.last < 0 := by omega
    rw [decide_eq_false q1] at HD
    go_enter Try.func91, Try.ntmps91
    go_wp2
    go_ret
    exact ⟨ret_bool HD.out.symm, Ev.alloc (Ev.refl _) _⟩

end Go.Proofs.Ytffbkbcjddigdaa
