/- Contracts of package weed's functions, joined; see each part's theorems. -/
import Derived.Test.YtcecmphdmpeibaaU3
import Derived.Deep.DeepCutAuto
import Derived.IntWalk
import Derived.Laws.CopyOwn

set_option linter.unusedSimpArgs false
set_option linter.unusedVariables false
namespace Go.Proofs.Ytcecmphdmpeibaa
open Go.RowKit

def M.sheets (f : M.Fl) : List (List Int) := M.fill f f.wds.toNat f.rows.toNat []
def M.truths (f : M.Fl) : List (List Int) := M.rights f (M.sheets f)
def M.finds (f : M.Fl) : List (List Bool) := M.sees f [] (M.sheets f)

/-- What a field that CheckField accepts is. -/
structure Good (f : M.Fl) : Prop where
  r1 : 1 ≤ f.rows
  r7 : f.rows ≤ 7
  d1 : 1 ≤ f.wds
  d3 : f.wds ≤ 3
  n5 : f.ts.length ≤ 5
  vt : ∀ t ∈ f.ts, M.VT t

theorem good_of {f : M.Fl} (h : M.check f = 0) : Good f := by
  unfold M.check at h
  split at h
  · simp at h
  · rename_i h0
    split at h
    · simp at h
    · rename_i h1
      simp only [Bool.not_eq_false] at h1
      have h2 : ((1 ≤ f.rows) ∧ (1 ≤ f.wds)) ∧ ∀ t ∈ f.ts, M.validTally f t = true := by
        simp only [M.valid, Bool.and_eq_true, decide_eq_true_eq, List.all_eq_true] at h1
        exact ⟨⟨h1.1, h1.2.1⟩, h1.2.2.2⟩
      refine ⟨h2.1.1, by omega, h2.1.2, by omega, by omega, fun t ht => ?_⟩
      have := h2.2 t ht
      simp only [M.validTally, M.hasWd, M.hasRow, Bool.and_eq_true, decide_eq_true_eq] at this
      unfold M.VT
      omega

theorem open_f {f : M.Fl} (hg : Good f) (A : Option Addr) (n c : Nat) (w : World) (hs : Sl tcs 5 w w.heap.size A n c f.ts) :
    Calls Try.prog 91 #[fv f (.slice A n c)] w fun e w' => (∃ p A1 A2 c1 c2, e = .returned (.pointer (some ⟨p, 0, none⟩)) ∧
      ∀ Y, Sl tcs 5 Y Y.heap.size A n c f.ts → (∀ k, w.heap.size ≤ k → k < w'.heap.size → Y.heap[k]? = w'.heap[k]?) → Wk Y p f (M.truths f) (M.finds f) A A1 A2 n c (M.truths f).length c1 (M.finds f).length c2) ∧ Ev w w' :=
  callsIn_wide.1 (open_in f A n c f.rows.toNat f.wds.toNat (by have := hg.r1; omega) (by have := hg.d1; omega) (by have := hg.r1; omega) (by have := hg.r7; omega) (by have := hg.d1; omega) (by have := hg.d3; omega) w hs (by rw [← hs.len]; exact hg.n5) hg.vt)

theorem open_c {f : M.Fl} (hg : Good f) (A : Option Addr) (n c : Nat) (w : World) (hs : Sl tcs 5 w w.heap.size A n c f.ts) :
    Calls Try.prog 91 #[fv f (.slice A n c)] w fun e w' => (∃ p A1 A2 c1 c2, e = .returned (.pointer (some ⟨p, 0, none⟩)) ∧
      Wk w' p f (M.truths f) (M.finds f) A A1 A2 n c (M.truths f).length c1 (M.finds f).length c2) ∧ Ev w w' :=
  Calls.mono (open_f hg A n c w hs) (by
    rintro e w' ⟨⟨p, A1, A2, c1, c2, he, h⟩, hE⟩
    exact ⟨⟨p, A1, A2, c1, c2, he, h w' (hs.ev hE) (fun _ _ _ => rfl)⟩, hE⟩)

def M.begin (f : M.Fl) (named : Bool) : Int := if M.check f = 0 then (if named then (if (M.truths f).length = 0 then 11 else 0) else 2) else M.check f

set_option maxRecDepth 100000 in
set_option maxHeartbeats 1000000 in
theorem begin_c (f : M.Fl) (named : Bool) (A : Option Addr) (n c : Nat) (w : World) (hs : Sl tcs 5 w w.heap.size A n c f.ts) :
    Calls Try.prog 75 #[fv f (.slice A n c), .bool named] w fun e w' => (∃ v, e = .returned (.tuple #[v, .int .i64 (M.begin f named)]) ∧
      (M.begin f named = 0 → ∃ p A1 A2 c1 c2, v = .pointer (some ⟨p, 0, none⟩) ∧ Wk w' p f (M.truths f) (M.finds f) A A1 A2 n c (M.truths f).length c1 (M.finds f).length c2) ∧ (M.begin f named ≠ 0 → v = .pointer none)) ∧ Ev w w' := by
  have hck := fun W (hE : Ev w W) => check_c f A n c W (hs.ev hE)
  have hop := fun (hg : Good f) W (hE : Ev w W) => open_c hg A n c W (hs.ev hE)
  rw [fv_eq] at hck ⊢
  have hop2 : ∀ (hg : Good f) W (hE : Ev w W), Calls Try.prog 91 #[.agg #[.int .i64 f.rows, .int .i64 f.wds, .int .i64 f.lf.lo, .int .i64 f.lf.hi, .slice A n c]] W fun e w' => (∃ p A1 A2 c1 c2, e = .returned (.pointer (some ⟨p, 0, none⟩)) ∧
      Wk w' p f (M.truths f) (M.finds f) A A1 A2 n c (M.truths f).length c1 (M.finds f).length c2) ∧ Ev W w' := hop
  have HCK := hid hck
  have HOP := hid hop2
  clear hck hop hop2
  generalize hk : M.check f = k at HCK
  have HK := hid hk
  clear hk
  by_cases h0 : k = 0
  · subst h0
    have hg := good_of HK.out
    have HO := hid (HOP.out hg)
    clear HOP
    cases named with
    | false =>
      rw [show M.begin f false = 2 by simp [M.begin, HK.out]]
      go_enter Try.func75, Try.ntmps75
      go_wp2_with (go_at_call 23; with_reducible refine (HCK.out _ (Ev.alloc (Ev.refl _) _)).mono ?_; rintro e w1 ⟨rfl, hb1⟩)
      go_ret2
      refine ⟨⟨_, ?_, fun h => ?_, fun _ => rfl⟩, Ev.trans (Ev.alloc (Ev.refl _) _) hb1⟩
      · rfl
      · exact absurd h (by decide)
    | true =>
      by_cases hz : (M.truths f).length = 0
      · rw [show M.begin f true = 11 by simp only [M.begin, HK.out, if_true, hz]]
        have HZ := hid hz
        clear hz
        go_enter Try.func75, Try.ntmps75
        go_wp2_with (first | (go_at_call 23; with_reducible refine (HCK.out _ (Ev.alloc (Ev.refl _) _)).mono ?_; rintro e w1 ⟨rfl, hb1⟩; have hc1 := cells5 (hb1.heap (alloc1 w (.cells #[.int .i64 f.rows, .int .i64 f.wds, .int .i64 f.lf.lo, .int .i64 f.lf.hi, .slice A n c] 36)).1); obtain ⟨g0, g1, g2, g3, g4⟩ := hc1) | (go_at_call 91; with_reducible refine (HO.out _ (Ev.trans (Ev.alloc (Ev.refl _) _) hb1)).mono ?_; rintro e w2 ⟨⟨p, A1, A2, c1, c2, rfl, hwk⟩, hb2⟩; have hz := HZ.out; rw [hz] at hwk; obtain ⟨k0, k1, k2, k3, k4, k5, k6⟩ := cells7 hwk.blk; have HWK := hid hwk; clear hwk))
        go_ret2
        refine ⟨⟨_, ?_, fun h => ?_, fun _ => rfl⟩, Ev.trans (Ev.trans (Ev.alloc (Ev.refl _) _) hb1) hb2⟩
        · rfl
        · exact absurd h (by decide)
      · rw [show M.begin f true = 0 by simp only [M.begin, HK.out, if_true, if_neg hz]]
        have HZ := hid hz
        clear hz
        go_enter Try.func75, Try.ntmps75
        go_wp2_with (first | (go_at_call 23; with_reducible refine (HCK.out _ (Ev.alloc (Ev.refl _) _)).mono ?_; rintro e w1 ⟨rfl, hb1⟩; have hc1 := cells5 (hb1.heap (alloc1 w (.cells #[.int .i64 f.rows, .int .i64 f.wds, .int .i64 f.lf.lo, .int .i64 f.lf.hi, .slice A n c] 36)).1); obtain ⟨g0, g1, g2, g3, g4⟩ := hc1) | (go_at_call 91; with_reducible refine (HO.out _ (Ev.trans (Ev.alloc (Ev.refl _) _) hb1)).mono ?_; rintro e w2 ⟨⟨p, A1, A2, c1, c2, rfl, hwk⟩, hb2⟩; obtain ⟨k0, k1, k2, k3, k4, k5, k6⟩ := cells7 hwk.blk; have HWK := hid hwk; clear hwk; have hzz : (((M.truths f).length : Int) == 0) = false := by have := HZ.out; simpa using this))
        go_ret2
        refine ⟨⟨_, ?_, fun _ => ⟨p, A1, A2, c1, c2, rfl, HWK.out⟩, fun h => ?_⟩, Ev.trans (Ev.trans (Ev.alloc (Ev.refl _) _) hb1) hb2⟩
        · rfl
        · exact absurd rfl h
  · have hne : (k != 0) = true := by simpa using h0
    rw [show M.begin f named = k by unfold M.begin; rw [HK.out, if_neg h0]]
    have H0 := hid h0
    clear h0
    go_enter Try.func75, Try.ntmps75
    go_wp2_with (go_at_call 23; with_reducible refine (HCK.out _ (Ev.alloc (Ev.refl _) _)).mono ?_; rintro e w1 ⟨rfl, hb1⟩)
    go_ret2
    refine ⟨⟨_, ?_, fun h => ?_, fun _ => rfl⟩, Ev.trans (Ev.alloc (Ev.refl _) _) hb1⟩
    · rfl
    · exact absurd h H0.out

end Go.Proofs.Ytcecmphdmpeibaa

namespace Go.Proofs.Ytcecmphdmpeibaa
open Go.RowKit

def M.firstK (fs : List (List Bool)) : Nat → Nat → Int × Int
  | _, 0 => (0, 7)
  | k, j + 1 => if M.agreeAll (k + 1) fs then M.firstK fs (k + 1) j else ((k : Int), 0)
def M.First (f : M.Fl) : Int × Int := if M.check f = 0 then M.firstK (M.finds f) 0 f.ts.length else (0, M.check f)

set_option maxRecDepth 100000 in
set_option maxHeartbeats 2000000 in
theorem First_c (f : M.Fl) (A : Option Addr) (n c : Nat) (w : World) (hs : Sl tcs 5 w w.heap.size A n c f.ts) :
    Calls Try.prog 43 #[fv f (.slice A n c)] w fun e w' => e = .returned (.tuple #[.int .i64 (M.First f).1, .int .i64 (M.First f).2]) ∧ Ev w w' := by
  have hsm := hs.small
  have hln := hs.len
  have hck := fun W (hE : Ev w W) => check_c f A n c W (hs.ev hE)
  have hop := fun (hg : Good f) W (hE : Ev w W) => open_c hg A n c W (hs.ev hE)
  rw [fv_eq] at hck ⊢
  have hop2 : ∀ (hg : Good f) W (hE : Ev w W), Calls Try.prog 91 #[.agg #[.int .i64 f.rows, .int .i64 f.wds, .int .i64 f.lf.lo, .int .i64 f.lf.hi, .slice A n c]] W fun e w' => (∃ p A1 A2 c1 c2, e = .returned (.pointer (some ⟨p, 0, none⟩)) ∧
      Wk w' p f (M.truths f) (M.finds f) A A1 A2 n c (M.truths f).length c1 (M.finds f).length c2) ∧ Ev W w' := hop
  have HCK := hid hck
  have HOP := hid hop2
  have HLN := hid hln
  clear hck hop hop2 hln
  generalize hk : M.check f = k at HCK
  have HK := hid hk
  clear hk
  by_cases h0 : k = 0
  · subst h0
    have hg := good_of HK.out
    have HO := hid (HOP.out hg)
    have hn5 : n ≤ 5 := by rw [← HLN.out]; exact hg.n5
    have HF := hid (show M.First f = M.firstK (M.finds f) 0 n by unfold M.First; rw [HK.out, if_pos rfl, HLN.out])
    clear HOP
    go_enter Try.func43, Try.ntmps43
    go_wp2_with (first | (go_at_call 23; with_reducible refine (HCK.out _ (Ev.alloc (Ev.refl _) _)).mono ?_; rintro e w1 ⟨rfl, hb1⟩; have hc1 := cells5 (hb1.heap (alloc1 w (.cells #[.int .i64 f.rows, .int .i64 f.wds, .int .i64 f.lf.lo, .int .i64 f.lf.hi, .slice A n c] 36)).1); have hq1 := hid (hb1.heap (alloc1 w (.cells #[.int .i64 f.rows, .int .i64 f.wds, .int .i64 f.lf.lo, .int .i64 f.lf.hi, .slice A n c] 36)).1); obtain ⟨g0, g1, g2, g3, g4⟩ := hc1) | (go_at_call 91; with_reducible refine (HO.out _ (Ev.trans (Ev.alloc (Ev.refl _) _) hb1)).mono ?_; rintro e w2 ⟨⟨p, A1, A2, c1, c2, rfl, hwk⟩, hb2⟩; have HWK := hid hwk; clear hwk; obtain ⟨e0, e1, e2, e3, e4⟩ := cells5 (hb2.heap hq1.out)))
    have hE2 : Ev w w2 := Ev.trans (Ev.trans (Ev.alloc (Ev.refl _) _) hb1) hb2
    clear g0 g1 g2 g3 g4 e0 e1 e2 e3 e4
    go_loopw [17] (fun v wr => ∃ k : Nat, v = .int .i64 k ∧ k ≤ n ∧ Ev w2 wr ∧ Hid (M.firstK (M.finds f) k (n - k) = M.First f)) (fun v _ => n - (intOf v).toNat)
    case atStart => exact ⟨0, rfl, by omega, Ev.refl _, hid (by rw [HF.out]; rfl)⟩
    case round =>
      obtain ⟨k, rfl, hk, hB, HM⟩ := hrel
      by_cases hlt : k < n
      · have hag := agree_c p (k + 1) (by omega) f (M.truths f) (M.finds f) A A1 A2 n c _ c1 _ c2 wr (HWK.out.ev hB)
        rw [show ((k + 1 : Nat) : Int) = (k : Int) + 1 from by omega] at hag
        have hM := HM.out
        rw [show n - k = (n - (k + 1)) + 1 from by omega] at hM
        unfold M.firstK at hM
        generalize M.agreeAll (k + 1) (M.finds f) = b at hag hM
        have HAG := hid hag
        have HM2 := hid hM
        clear hag hM
        cases b with
        | true =>
          go_wp2_with (go_at_call 92; with_reducible refine HAG.out.mono ?_; rintro e w3 ⟨rfl, hb3⟩)
          exact ⟨⟨k + 1, by go_num, by omega, hB.trans hb3, hid (by have := HM2.out; simpa using this)⟩, by simp [intOf]; omega⟩
        | false =>
          go_wp2_with (go_at_call 92; with_reducible refine HAG.out.mono ?_; rintro e w3 ⟨rfl, hb3⟩)
          go_ret2
          refine ⟨?_, hE2.trans (hB.trans hb3)⟩
          have h2 := HM2.out
          rw [if_neg (by decide)] at h2
          rw [← h2]
          rfl
      · have hM := HM.out
        rw [show n - k = 0 from by omega] at hM
        have HM2 := hid hM
        clear hM
        go_wp2
        go_ret2
        refine ⟨?_, hE2.trans hB⟩
        have h2 := HM2.out
        rw [← h2]
        rfl
  · have hne : (k != 0) = true := by simpa using h0
    have H0 := hid h0
    clear h0
    go_enter Try.func43, Try.ntmps43
    go_wp2_with (go_at_call 23; with_reducible refine (HCK.out _ (Ev.alloc (Ev.refl _) _)).mono ?_; rintro e w1 ⟨rfl, hb1⟩)
    go_ret2
    refine ⟨?_, Ev.trans (Ev.alloc (Ev.refl _) _) hb1⟩
    rw [show M.First f = (0, k) by unfold M.First; rw [HK.out, if_neg H0.out]]
    rfl

end Go.Proofs.Ytcecmphdmpeibaa

namespace Go.Proofs.Ytcecmphdmpeibaa
open Go.RowKit

set_option maxRecDepth 100000 in
set_option maxHeartbeats 2000000 in
theorem Who_c (f : M.Fl) (row : Int) (A : Option Addr) (n c : Nat) (w : World) (hs : Sl tcs 5 w w.heap.size A n c f.ts) :
    Calls Try.prog 32 #[fv f (.slice A n c), .int .i64 row] w fun e w' =>
      (if M.begin f (M.hasRow f row) = 0 then ∃ B d, e = .returned (.tuple #[.slice B (M.who f row (M.truths f)).length d, .int .i64 0]) ∧ Sl ics 1 w' w'.heap.size B (M.who f row (M.truths f)).length d (M.who f row (M.truths f))
        else e = .returned (.tuple #[.slice none 0 0, .int .i64 (M.begin f (M.hasRow f row))])) ∧ Ev w w' := by
  have hhr := fun W => hasRow_e f A n c row W
  have hbg := fun b W (hE : Ev w W) => begin_c f b A n c W (hs.ev hE)
  rw [fv_eq] at hhr hbg ⊢
  have HHR := hid hhr
  generalize hbb : M.hasRow f row = b at HHR
  have HBB := hid hbb
  clear hhr
  by_cases hb : M.begin f b = 0
  · simp only [if_pos hb]
    have hrow : 0 ≤ row ∧ row ≤ 6 := by
      have hb' : b = true := by
        cases b with
        | true => rfl
        | false =>
          unfold M.begin at hb
          split at hb
          · simp at hb
          · rename_i h0; exact absurd hb h0
      have hck : M.check f = 0 := by
        unfold M.begin at hb
        split at hb
        · assumption
        · assumption
      have hg := good_of hck
      have h1 := HBB.out
      rw [hb'] at h1
      simp only [M.hasRow, Bool.and_eq_true, decide_eq_true_eq] at h1
      have := hg.r7
      omega
    have hbg2 : ∀ W, Ev w W → Calls Try.prog 75 #[.agg #[.int .i64 f.rows, .int .i64 f.wds, .int .i64 f.lf.lo, .int .i64 f.lf.hi, .slice A n c], .bool b] W fun e w' => (∃ p A1 A2 c1 c2, e = .returned (.tuple #[.pointer (some ⟨p, 0, none⟩), .int .i64 0]) ∧ Wk w' p f (M.truths f) (M.finds f) A A1 A2 n c (M.truths f).length c1 (M.finds f).length c2) ∧ Ev W w' := fun W hE => Calls.mono (hbg b W hE) (by
      rintro e w' ⟨⟨v, he, h1, _⟩, h3⟩
      obtain ⟨p, A1, A2, c1, c2, rfl, hwk⟩ := h1 hb
      rw [hb] at he
      exact ⟨⟨p, A1, A2, c1, c2, he, hwk⟩, h3⟩)
    have HBG := hid hbg2
    clear hbg hbg2 hbb hb
    go_enter Try.func32, Try.ntmps32
    go_wp2
    generalize hW0 : World.alloc w _ = W0
    have hE0 : Ev w W0 := by rw [← hW0]; exact Ev.alloc (Ev.refl _) _
    have hal := alloc1 w (.cells #[.int .i64 f.rows, .int .i64 f.wds, .int .i64 f.lf.lo, .int .i64 f.lf.hi, .slice A n c] 36)
    rw [hW0] at hal
    obtain ⟨g0, g1, g2, g3, g4⟩ := cells5 hal.1
    have hwl := heap_lt hal.1
    have HSE : Hid (∀ w', Ev W0 w' → Ev W0 w' ∧ (∀ b o, b < W0.heap.size → w'.cell? ⟨b, o, none⟩ = W0.cell? ⟨b, o, none⟩)) := hid (fun w' h => ⟨h, h.cells.1⟩)
    clear hal hW0
    go_region_held3 (fun w' => Ev W0 w' ∧ (∀ b o, b < W0.heap.size → w'.cell? ⟨b, o, none⟩ = W0.cell? ⟨b, o, none⟩)) (exact HSE.out _ (by repeat (first | with_reducible exact Ev.refl W0 | (with_reducible assumption) | with_reducible refine Ev.drew ?_))) (first | (go_at_call 79; with_reducible refine (HHR.out _).mono ?_; rintro e w1 ⟨rfl, hb1⟩; have hc1 : Ev W0 w1 := (by first | exact hb1 | exact Ev.trans (Ev.drew (Ev.refl _)) hb1)) | (go_at_call 75; with_reducible refine (HBG.out _ (hE0.trans (by first | exact hc1 | exact Ev.drew hc1))).mono ?_; rintro e w2 ⟨⟨p, A1, A2, c1, c2, rfl, hwk⟩, hb2⟩; have hc2 : Ev W0 w2 := (by first | exact hc1.trans hb2 | exact Ev.trans (Ev.drew hc1) hb2); have HWK := hid hwk; clear hwk))
    go_wp2_with (go_at_call 80; with_reducible refine (who_c p row hrow.1 hrow.2 f (M.truths f) (M.finds f) A A1 A2 n c _ c1 _ c2 w2 HWK.out).mono ?_; rintro e w3 ⟨⟨B, d, rfl, hsl⟩, hb3⟩; have HSL := hid hsl; clear hsl)
    go_ret2
    exact ⟨⟨B, d, rfl, HSL.out⟩, hE0.trans (hc2.trans hb3)⟩
  · simp only [if_neg hb]
    generalize hk : M.begin f b = k at hb ⊢
    have hne : (k != 0) = true := by simpa using hb
    have hbg2 : ∀ W, Ev w W → Calls Try.prog 75 #[.agg #[.int .i64 f.rows, .int .i64 f.wds, .int .i64 f.lf.lo, .int .i64 f.lf.hi, .slice A n c], .bool b] W fun e w' => e = .returned (.tuple #[.pointer none, .int .i64 k]) ∧ Ev W w' := fun W hE => Calls.mono (hbg b W hE) (by
      rintro e w' ⟨⟨v, he, _, h2⟩, h3⟩
      rw [hk] at he h2
      rw [h2 hb] at he
      exact ⟨he, h3⟩)
    have HBG := hid hbg2
    clear hbg hbg2 hbb hb hk
    go_enter Try.func32, Try.ntmps32
    go_wp2
    generalize hW0 : World.alloc w _ = W0
    have hE0 : Ev w W0 := by rw [← hW0]; exact Ev.alloc (Ev.refl _) _
    have hal := alloc1 w (.cells #[.int .i64 f.rows, .int .i64 f.wds, .int .i64 f.lf.lo, .int .i64 f.lf.hi, .slice A n c] 36)
    rw [hW0] at hal
    obtain ⟨g0, g1, g2, g3, g4⟩ := cells5 hal.1
    have hwl := heap_lt hal.1
    have HSE : Hid (∀ w', Ev W0 w' → Ev W0 w' ∧ (∀ b o, b < W0.heap.size → w'.cell? ⟨b, o, none⟩ = W0.cell? ⟨b, o, none⟩)) := hid (fun w' h => ⟨h, h.cells.1⟩)
    clear hal hW0
    go_region_held3 (fun w' => Ev W0 w' ∧ (∀ b o, b < W0.heap.size → w'.cell? ⟨b, o, none⟩ = W0.cell? ⟨b, o, none⟩)) (exact HSE.out _ (by repeat (first | with_reducible exact Ev.refl W0 | (with_reducible assumption) | with_reducible refine Ev.drew ?_))) (first | (go_at_call 79; with_reducible refine (HHR.out _).mono ?_; rintro e w1 ⟨rfl, hb1⟩; have hc1 : Ev W0 w1 := (by first | exact hb1 | exact Ev.trans (Ev.drew (Ev.refl _)) hb1)) | (go_at_call 75; with_reducible refine (HBG.out _ (hE0.trans (by first | exact hc1 | exact Ev.drew hc1))).mono ?_; rintro e w2 ⟨rfl, hb2⟩; have hc2 : Ev W0 w2 := (by first | exact hc1.trans hb2 | exact Ev.trans (Ev.drew hc1) hb2)))
    go_wp2
    go_ret2
    exact ⟨rfl, hE0.trans hc2⟩

end Go.Proofs.Ytcecmphdmpeibaa

namespace Go.Proofs.Ytcecmphdmpeibaa
open Go.RowKit

theorem M.fill_wf (f : M.Fl) (D : Nat) (hD : D ≤ 3) : ∀ (j : Nat) (pre : List Int), (∀ y ∈ pre, Wf y) → ∀ x ∈ M.fill f D j pre, ∀ y ∈ x, Wf y
  | 0, pre, h, x, hx, y, hy => by
    unfold M.fill at hx
    split at hx
    · rw [show x = M.pad pre by simpa using hx] at hy
      unfold M.pad at hy
      rcases List.mem_append.1 hy with hy | hy
      · exact h y hy
      · rw [(List.mem_replicate.1 hy).2]; exact Wf.of (by omega)
    · simp at hx
  | j + 1, pre, h, x, hx, y, hy => by
    unfold M.fill at hx
    obtain ⟨k, hk, hx⟩ := List.mem_flatMap.1 hx
    refine M.fill_wf f D hD j _ (fun z hz => ?_) x hx y hy
    rcases List.mem_append.1 hz with hz | hz
    · exact h z hz
    · rw [show z = (k : Int) - 1 by simpa using hz]
      have : k < D + 1 := by rw [List.mem_range'] at hk; obtain ⟨i, hi, rfl⟩ := hk; omega
      exact Wf.of (by omega)

theorem truths_wf {f : M.Fl} (hg : Good f) : ∀ t ∈ M.truths f, ∀ y ∈ t, Wf y := fun t ht =>
  M.fill_wf f f.wds.toNat (by have := hg.d3; omega) f.rows.toNat [] (by simp) t (List.mem_filter.1 ht).1

def M.askBest (f : M.Fl) (x : Int) : List Int := M.shortest (fun rows => M.settles f x (M.truths f) rows) f.rows.toNat

/-- The shortest list of rows that settles a weeder, asked for in whatever world. -/
theorem askBest_c {f : M.Fl} (hg : Good f) (p : Nat) (x : Int) (mb : Nat) (A A1 A2 : Option Addr) (n c c1 c2 : Nat) (w : World) (hw : Wk w p f (M.truths f) (M.finds f) A A1 A2 n c (M.truths f).length c1 (M.finds f).length c2) :
    Calls Try.prog 84 #[.agg #[.pointer (some ⟨p, 0, none⟩), .int .i64 x, .map (some mb), .int .i64 f.rows, .func (.func 83) #[] #[]]] w fun e w' => (∃ B d, e = .returned (.slice B (M.askBest f x).length d) ∧ Sl ics 1 w' w'.heap.size B (M.askBest f x).length d (M.askBest f x)) ∧ Ev w w' := by
  have h7 := hg.r7
  have h1 := hg.r1
  have := shortA_c (.pointer (some ⟨p, 0, none⟩)) (.int .i64 x) (.map (some mb)) f.rows.toNat (by omega) (fun rows => M.settles f x (M.truths f) rows) w (fun W B m d rows L hE hs hm =>
    settles_c p x mb B m d rows (fun r hr => by have := M.incr_range f.rows.toNat L 0 rows hm r hr; omega) f (M.truths f) (truths_wf hg) (M.finds f) A A1 A2 n c _ c1 _ c2 W (hw.ev hE) hs)
  rw [Int.toNat_of_nonneg (by omega)] at this
  exact this

def M.leaveBest (f : M.Fl) : List Int := M.shortest (fun l => M.sparesAll l (M.finds f)) f.ts.length

theorem leaveBest_c {f : M.Fl} (hg : Good f) (p : Nat) (A A1 A2 : Option Addr) (n c c1 c2 : Nat) (w : World) (hw : Wk w p f (M.truths f) (M.finds f) A A1 A2 n c (M.truths f).length c1 (M.finds f).length c2) :
    Calls Try.prog 94 #[.agg #[.pointer (some ⟨p, 0, none⟩), .int .i64 (f.ts.length : Int), .func (.func 93) #[] #[]]] w fun e w' => (∃ B d, e = .returned (.slice B (M.leaveBest f).length d) ∧ Sl ics 1 w' w'.heap.size B (M.leaveBest f).length d (M.leaveBest f)) ∧ Ev w w' := by
  have h5 := hg.n5
  exact shortW_c (.pointer (some ⟨p, 0, none⟩)) f.ts.length (by omega) (fun l => M.sparesAll l (M.finds f)) w (fun W B m d rows L hE hs hm =>
    spares_c p B m d rows (fun r hr => by have := M.incr_range f.ts.length L 0 rows hm r hr; omega) f (M.truths f) (M.finds f) A A1 A2 n c _ c1 _ c2 W (hw.ev hE) hs)

end Go.Proofs.Ytcecmphdmpeibaa

namespace Go.Proofs.Ytcecmphdmpeibaa
open Go.RowKit

set_option maxRecDepth 100000 in
set_option maxHeartbeats 2000000 in
theorem Ask_c (f : M.Fl) (x : Int) (A : Option Addr) (n c : Nat) (w : World) (hs : Sl tcs 5 w w.heap.size A n c f.ts) :
    Calls Try.prog 36 #[fv f (.slice A n c), .int .i64 x] w fun e w' =>
      (if M.begin f (M.hasWd f x) = 0 then ∃ B d, e = .returned (.tuple #[.slice B (M.askBest f x).length d, .int .i64 0]) ∧ Sl ics 1 w' w'.heap.size B (M.askBest f x).length d (M.askBest f x)
        else e = .returned (.tuple #[.slice none 0 0, .int .i64 (M.begin f (M.hasWd f x))])) ∧ Ev w w' := by
  have hhr := fun W => hasWd_e f A n c x W
  have hbg := fun b W (hE : Ev w W) => begin_c f b A n c W (hs.ev hE)
  rw [fv_eq] at hhr hbg ⊢
  have HHR := hid hhr
  generalize hbb : M.hasWd f x = b at HHR
  have HBB := hid hbb
  clear hhr
  by_cases hb : M.begin f b = 0
  · simp only [if_pos hb]
    have hck : M.check f = 0 := by
      unfold M.begin at hb
      split at hb
      · assumption
      · assumption
    have hg := good_of hck
    clear hck
    have hbg2 : ∀ W, Ev w W → Calls Try.prog 75 #[.agg #[.int .i64 f.rows, .int .i64 f.wds, .int .i64 f.lf.lo, .int .i64 f.lf.hi, .slice A n c], .bool b] W fun e w' => (∃ p A1 A2 c1 c2, e = .returned (.tuple #[.pointer (some ⟨p, 0, none⟩), .int .i64 0]) ∧ Wk w' p f (M.truths f) (M.finds f) A A1 A2 n c (M.truths f).length c1 (M.finds f).length c2) ∧ Ev W w' := fun W hE => Calls.mono (hbg b W hE) (by
      rintro e w' ⟨⟨v, he, h1, _⟩, h3⟩
      obtain ⟨p, A1, A2, c1, c2, rfl, hwk⟩ := h1 hb
      rw [hb] at he
      exact ⟨⟨p, A1, A2, c1, c2, he, hwk⟩, h3⟩)
    have HBG := hid hbg2
    clear hbg hbg2 hbb hb
    go_enter Try.func36, Try.ntmps36
    go_wp2
    generalize hW0 : World.alloc w _ = W0
    have hE0 : Ev w W0 := by rw [← hW0]; exact Ev.alloc (Ev.refl _) _
    have hal := alloc1 w (.cells #[.int .i64 f.rows, .int .i64 f.wds, .int .i64 f.lf.lo, .int .i64 f.lf.hi, .slice A n c] 36)
    rw [hW0] at hal
    obtain ⟨g0, g1, g2, g3, g4⟩ := cells5 hal.1
    have hwl := heap_lt hal.1
    have HQ0 := hid hal.1
    have HSE : Hid (∀ w', Ev W0 w' → Ev W0 w' ∧ (∀ b o, b < W0.heap.size → w'.cell? ⟨b, o, none⟩ = W0.cell? ⟨b, o, none⟩)) := hid (fun w' h => ⟨h, h.cells.1⟩)
    clear hal hW0
    go_region_held3 (fun w' => Ev W0 w' ∧ (∀ b o, b < W0.heap.size → w'.cell? ⟨b, o, none⟩ = W0.cell? ⟨b, o, none⟩)) (exact HSE.out _ (by repeat (first | with_reducible exact Ev.refl W0 | (with_reducible assumption) | with_reducible refine Ev.drew ?_))) (first | (go_at_call 81; with_reducible refine (HHR.out _).mono ?_; rintro e w1 ⟨rfl, hb1⟩; have hc1 : Ev W0 w1 := (by first | exact hb1 | exact Ev.trans (Ev.drew (Ev.refl _)) hb1)) | (go_at_call 75; with_reducible refine (HBG.out _ (hE0.trans (by first | exact hc1 | exact Ev.drew hc1))).mono ?_; rintro e w2 ⟨⟨p, A1, A2, c1, c2, rfl, hwk⟩, hb2⟩; have hc2 : Ev W0 w2 := (by first | exact hc1.trans hb2 | exact Ev.trans (Ev.drew hc1) hb2); have HWK := hid hwk; clear hwk))
    go_wp2
    have hE2 := hE0.trans hc2
    obtain ⟨e0, e1, e2, e3, e4⟩ := cells5 (hc2.heap HQ0.out)
    have HA3 := fun W => ask_c p x W
    unfold askv at HA3
    have HAS := hid HA3
    clear HA3
    have hwl2 : w.heap.size < w2.heap.size := heap_lt (hc2.heap HQ0.out)
    have HSE2 : Hid (∀ w', Ev w2 w' → Ev w2 w' ∧ (∀ b o, b < w2.heap.size → w'.cell? ⟨b, o, none⟩ = w2.cell? ⟨b, o, none⟩)) := hid (fun w' h => ⟨h, h.cells.1⟩)
    go_region_held3 (fun w' => Ev w2 w' ∧ (∀ b o, b < w2.heap.size → w'.cell? ⟨b, o, none⟩ = w2.cell? ⟨b, o, none⟩)) (exact HSE2.out _ (by repeat (first | (with_reducible exact Ev.refl w2) | (go_split_ands; with_reducible assumption) | with_reducible refine Ev.drew ?_ | with_reducible refine Ev.alloc ?_ _ | with_reducible refine Ev.setCell ?_ ?_ _ | with_reducible refine Ev.trans ?_ (by with_reducible assumption) | exact Nat.le_refl _ | omega | (simp; done) | (simp; omega)))) (first | (go_at_call 82; with_reducible refine (HAS.out _).mono ?_; rintro e w3 ⟨⟨mb, rfl, _, _⟩, hb3⟩; have hz3 := hb3.size; (try simp at hz3); (try (have hA := hb3.heap (heap_at w2 _ rfl); obtain ⟨r0, r1, r2, r3, r4⟩ := cells5 hA; obtain ⟨f0, f1, f2, f3, f4⟩ := frz5 hA; have HA := hid hA; clear hA))))
    · have hEF : Ev w2 (w3.alloc (.cells #[.pointer (some ⟨p, 0, none⟩), .int .i64 x, .map (some mb), .int .i64 f.rows, .func (.func 83) #[] #[]] 121)) := by go_split_ands; assumption
      have hXF : (w3.alloc (.cells #[.pointer (some ⟨p, 0, none⟩), .int .i64 x, .map (some mb), .int .i64 f.rows, .func (.func 83) #[] #[]] 121)).heap[w3.heap.size]? = some (.cells #[.pointer (some ⟨p, 0, none⟩), .int .i64 x, .map (some mb), .int .i64 f.rows, .func (.func 83) #[] #[]] 121 (0, 0)) := heap_at w3 _ rfl
      generalize w3.alloc (.cells #[.pointer (some ⟨p, 0, none⟩), .int .i64 x, .map (some mb), .int .i64 f.rows, .func (.func 83) #[] #[]] 121) = WF at hEF hXF ⊢
      obtain ⟨x0, x1, x2, x3, x4⟩ := cells5 hXF
      have hab := askBest_c hg p x mb A A1 A2 n c c1 c2 WF (HWK.out.ev hEF)
      have HAB := hid hab
      clear hab hXF
      go_wp2_with (go_at_call 84; with_reducible refine HAB.out.mono ?_; rintro e w4 ⟨⟨B, d, rfl, hsl⟩, hb4⟩; have HSL := hid hsl; clear hsl)
      go_ret2
      exact ⟨⟨B, d, rfl, HSL.out⟩, (hE2.trans hEF).trans hb4⟩
    · have hEF : Ev w2 (((((w3.setCell ⟨w2.heap.size, 0, none⟩ (.pointer (some ⟨p, 0, none⟩))).setCell ⟨w2.heap.size, 1, none⟩ (.int .i64 x)).setCell ⟨w2.heap.size, 2, none⟩ (.map (some mb))).setCell ⟨w2.heap.size, 3, none⟩ (.int .i64 f.rows)).setCell ⟨w2.heap.size, 4, none⟩ (.func (.func 83) #[] #[])) := by go_split_ands; assumption
      have hXF : (((((w3.setCell ⟨w2.heap.size, 0, none⟩ (.pointer (some ⟨p, 0, none⟩))).setCell ⟨w2.heap.size, 1, none⟩ (.int .i64 x)).setCell ⟨w2.heap.size, 2, none⟩ (.map (some mb))).setCell ⟨w2.heap.size, 3, none⟩ (.int .i64 f.rows)).setCell ⟨w2.heap.size, 4, none⟩ (.func (.func 83) #[] #[])).heap[w2.heap.size]? = some (.cells #[.pointer (some ⟨p, 0, none⟩), .int .i64 x, .map (some mb), .int .i64 f.rows, .func (.func 83) #[] #[]] 121 (0, 0)) := set5 HA.out
      generalize ((((w3.setCell ⟨w2.heap.size, 0, none⟩ (.pointer (some ⟨p, 0, none⟩))).setCell ⟨w2.heap.size, 1, none⟩ (.int .i64 x)).setCell ⟨w2.heap.size, 2, none⟩ (.map (some mb))).setCell ⟨w2.heap.size, 3, none⟩ (.int .i64 f.rows)).setCell ⟨w2.heap.size, 4, none⟩ (.func (.func 83) #[] #[]) = WF at hEF hXF ⊢
      obtain ⟨x0, x1, x2, x3, x4⟩ := cells5 hXF
      have hab := askBest_c hg p x mb A A1 A2 n c c1 c2 WF (HWK.out.ev hEF)
      have HAB := hid hab
      clear hab hXF
      go_wp2_with (go_at_call 84; with_reducible refine HAB.out.mono ?_; rintro e w4 ⟨⟨B, d, rfl, hsl⟩, hb4⟩; have HSL := hid hsl; clear hsl)
      go_ret2
      exact ⟨⟨B, d, rfl, HSL.out⟩, (hE2.trans hEF).trans hb4⟩
  · simp only [if_neg hb]
    generalize hk : M.begin f b = k at hb ⊢
    have hne : (k != 0) = true := by simpa using hb
    have hbg2 : ∀ W, Ev w W → Calls Try.prog 75 #[.agg #[.int .i64 f.rows, .int .i64 f.wds, .int .i64 f.lf.lo, .int .i64 f.lf.hi, .slice A n c], .bool b] W fun e w' => e = .returned (.tuple #[.pointer none, .int .i64 k]) ∧ Ev W w' := fun W hE => Calls.mono (hbg b W hE) (by
      rintro e w' ⟨⟨v, he, _, h2⟩, h3⟩
      rw [hk] at he h2
      rw [h2 hb] at he
      exact ⟨he, h3⟩)
    have HBG := hid hbg2
    clear hbg hbg2 hbb hb hk
    go_enter Try.func36, Try.ntmps36
    go_wp2
    generalize hW0 : World.alloc w _ = W0
    have hE0 : Ev w W0 := by rw [← hW0]; exact Ev.alloc (Ev.refl _) _
    have hal := alloc1 w (.cells #[.int .i64 f.rows, .int .i64 f.wds, .int .i64 f.lf.lo, .int .i64 f.lf.hi, .slice A n c] 36)
    rw [hW0] at hal
    obtain ⟨g0, g1, g2, g3, g4⟩ := cells5 hal.1
    have hwl := heap_lt hal.1
    have HSE : Hid (∀ w', Ev W0 w' → Ev W0 w' ∧ (∀ b o, b < W0.heap.size → w'.cell? ⟨b, o, none⟩ = W0.cell? ⟨b, o, none⟩)) := hid (fun w' h => ⟨h, h.cells.1⟩)
    clear hal hW0
    go_region_held3 (fun w' => Ev W0 w' ∧ (∀ b o, b < W0.heap.size → w'.cell? ⟨b, o, none⟩ = W0.cell? ⟨b, o, none⟩)) (exact HSE.out _ (by repeat (first | with_reducible exact Ev.refl W0 | (with_reducible assumption) | with_reducible refine Ev.drew ?_))) (first | (go_at_call 81; with_reducible refine (HHR.out _).mono ?_; rintro e w1 ⟨rfl, hb1⟩; have hc1 : Ev W0 w1 := (by first | exact hb1 | exact Ev.trans (Ev.drew (Ev.refl _)) hb1)) | (go_at_call 75; with_reducible refine (HBG.out _ (hE0.trans (by first | exact hc1 | exact Ev.drew hc1))).mono ?_; rintro e w2 ⟨rfl, hb2⟩; have hc2 : Ev W0 w2 := (by first | exact hc1.trans hb2 | exact Ev.trans (Ev.drew hc1) hb2)))
    go_wp2
    go_ret2
    exact ⟨rfl, hE0.trans hc2⟩


end Go.Proofs.Ytcecmphdmpeibaa

namespace Go.Proofs.Ytcecmphdmpeibaa
open Go.RowKit

theorem frz3 {W : World} {b : Nat} {cs : Array Value} {t : TypeId} (h : W.heap[b]? = some (.cells cs t (0, 0))) : W.frozen? ⟨b, 0, none⟩ = false ∧ W.frozen? ⟨b, 1, none⟩ = false ∧ W.frozen? ⟨b, 2, none⟩ = false :=
  ⟨frozen_in h 0, frozen_in h 1, frozen_in h 2⟩
theorem set3 {W : World} {b : Nat} {t : TypeId} {z0 z1 z2 v0 v1 v2 : Value} (h : W.heap[b]? = some (.cells #[z0, z1, z2] t (0, 0))) :
    (((W.setCell ⟨b, 0, none⟩ v0).setCell ⟨b, 1, none⟩ v1).setCell ⟨b, 2, none⟩ v2).heap[b]? = some (.cells #[v0, v1, v2] t (0, 0)) := by
  have h1 := set_heap_same (j := 0) (v := v0) h
  have h2 := set_heap_same (j := 1) (v := v1) h1
  have h3 := set_heap_same (j := 2) (v := v2) h2
  rw [h3]
  simp

set_option maxRecDepth 100000 in
set_option maxHeartbeats 2000000 in
theorem Leave_c (f : M.Fl) (A : Option Addr) (n c : Nat) (w : World) (hs : Sl tcs 5 w w.heap.size A n c f.ts) :
    Calls Try.prog 44 #[fv f (.slice A n c)] w fun e w' =>
      (if M.check f = 0 then ∃ B d, e = .returned (.tuple #[.slice B (M.leaveBest f).length d, .int .i64 0]) ∧ Sl ics 1 w' w'.heap.size B (M.leaveBest f).length d (M.leaveBest f)
        else e = .returned (.tuple #[.slice none 0 0, .int .i64 (M.check f)])) ∧ Ev w w' := by
  have hsm := hs.small
  have hln := hs.len
  have hck := fun W (hE : Ev w W) => check_c f A n c W (hs.ev hE)
  have hop := fun (hg : Good f) W (hE : Ev w W) => open_f hg A n c W (hs.ev hE)
  rw [fv_eq] at hck ⊢
  have hop2 : ∀ (hg : Good f) W (hE : Ev w W), Calls Try.prog 91 #[.agg #[.int .i64 f.rows, .int .i64 f.wds, .int .i64 f.lf.lo, .int .i64 f.lf.hi, .slice A n c]] W fun e w' => (∃ p A1 A2 c1 c2, e = .returned (.pointer (some ⟨p, 0, none⟩)) ∧
      ∀ Y, Sl tcs 5 Y Y.heap.size A n c f.ts → (∀ k, W.heap.size ≤ k → k < w'.heap.size → Y.heap[k]? = w'.heap[k]?) → Wk Y p f (M.truths f) (M.finds f) A A1 A2 n c (M.truths f).length c1 (M.finds f).length c2) ∧ Ev W w' := hop
  have HCK := hid hck
  have HOP := hid hop2
  have HLN := hid hln
  clear hck hop hop2 hln
  generalize hk : M.check f = k at HCK ⊢
  have HK := hid hk
  clear hk
  by_cases h0 : k = 0
  · simp only [if_pos h0]
    subst h0
    have hg := good_of HK.out
    have HO := hid (HOP.out hg)
    clear HOP
    go_enter Try.func44, Try.ntmps44
    go_wp2_with (go_at_call 23; with_reducible refine (HCK.out _ (Ev.alloc (Ev.refl _) _)).mono ?_; rintro e w2 ⟨rfl, hb1⟩; have hq1 := hid (hb1.heap (alloc1 w (.cells #[.int .i64 f.rows, .int .i64 f.wds, .int .i64 f.lf.lo, .int .i64 f.lf.hi, .slice A n c] 36)).1); obtain ⟨g0, g1, g2, g3, g4⟩ := cells5 hq1.out)
    have hE2 : Ev w w2 := Ev.trans (Ev.alloc (Ev.refl _) _) hb1
    have hwl2 : w.heap.size < w2.heap.size := heap_lt hq1.out
    have HSE2 : Hid (∀ w', Ev w2 w' → Ev w2 w' ∧ (∀ b o, b < w2.heap.size → w'.cell? ⟨b, o, none⟩ = w2.cell? ⟨b, o, none⟩)) := hid (fun w' h => ⟨h, h.cells.1⟩)
    go_region_held3 (fun w' => Ev w2 w' ∧ (∀ b o, b < w2.heap.size → w'.cell? ⟨b, o, none⟩ = w2.cell? ⟨b, o, none⟩)) (exact HSE2.out _ (by repeat (first | (with_reducible exact Ev.refl w2) | (go_split_ands; with_reducible assumption) | with_reducible refine Ev.drew ?_ | with_reducible refine Ev.alloc ?_ _ | with_reducible refine Ev.setCell ?_ ?_ _ | with_reducible refine Ev.trans ?_ (by with_reducible assumption) | exact Nat.le_refl _ | omega | (simp; done) | (simp; omega)))) (first | (go_at_call 91; with_reducible refine (HO.out _ ?_).mono ?_; (go_split_ands; exact hE2.trans (by with_reducible assumption)); rintro e w3 ⟨⟨p, A1, A2, c1, c2, rfl, hwk⟩, hb3⟩; have HWK := hid hwk; clear hwk; have hz3 := hb3.size; (try simp at hz3); (try (have hA := hb3.heap (heap_at w2 _ rfl); obtain ⟨r0, r1, r2⟩ := cells3 hA; obtain ⟨f0, f1, f2⟩ := frz3 hA; have HA := hid hA; clear hA))))
    · have hEF : Ev w2 (w3.alloc (.cells #[.pointer (some ⟨p, 0, none⟩), .int .i64 n, .func (.func 93) #[] #[]] 135)) := by go_split_ands; assumption
      have hXF : (w3.alloc (.cells #[.pointer (some ⟨p, 0, none⟩), .int .i64 n, .func (.func 93) #[] #[]] 135)).heap[w3.heap.size]? = some (.cells #[.pointer (some ⟨p, 0, none⟩), .int .i64 n, .func (.func 93) #[] #[]] 135 (0, 0)) := heap_at w3 _ rfl
      have hwf := HWK.out (w3.alloc (.cells #[.pointer (some ⟨p, 0, none⟩), .int .i64 n, .func (.func 93) #[] #[]] 135)) (hs.ev (hE2.trans hEF)) (fun k hk hk2 => Below.heap_alloc _ _ k hk2)
      generalize w3.alloc (.cells #[.pointer (some ⟨p, 0, none⟩), .int .i64 n, .func (.func 93) #[] #[]] 135) = WF at hEF hXF hwf ⊢
      obtain ⟨x0, x1, x2⟩ := cells3 hXF
      have hab := leaveBest_c hg p A A1 A2 n c c1 c2 WF hwf
      rw [HLN.out] at hab
      have HAB := hid hab
      clear hab hXF hwf
      go_wp2_with (go_at_call 94; with_reducible refine HAB.out.mono ?_; rintro e w4 ⟨⟨B, d, rfl, hsl⟩, hb4⟩; have HSL := hid hsl; clear hsl)
      go_ret2
      exact ⟨⟨B, d, rfl, HSL.out⟩, (hE2.trans hEF).trans hb4⟩
    · have hEF : Ev w2 (((w3.setCell ⟨w2.heap.size, 0, none⟩ (.pointer (some ⟨p, 0, none⟩))).setCell ⟨w2.heap.size, 1, none⟩ (.int .i64 n)).setCell ⟨w2.heap.size, 2, none⟩ (.func (.func 93) #[] #[])) := by go_split_ands; assumption
      have hXF : (((w3.setCell ⟨w2.heap.size, 0, none⟩ (.pointer (some ⟨p, 0, none⟩))).setCell ⟨w2.heap.size, 1, none⟩ (.int .i64 n)).setCell ⟨w2.heap.size, 2, none⟩ (.func (.func 93) #[] #[])).heap[w2.heap.size]? = some (.cells #[.pointer (some ⟨p, 0, none⟩), .int .i64 n, .func (.func 93) #[] #[]] 135 (0, 0)) := set3 HA.out
      have hwf := HWK.out (((w3.setCell ⟨w2.heap.size, 0, none⟩ (.pointer (some ⟨p, 0, none⟩))).setCell ⟨w2.heap.size, 1, none⟩ (.int .i64 n)).setCell ⟨w2.heap.size, 2, none⟩ (.func (.func 93) #[] #[])) (hs.ev (hE2.trans hEF)) (fun k hk hk2 => by
        have hk3 : w2.heap.size + 1 ≤ k := by simpa using hk
        exact (Below.heap_setCell _ _ _ k (by simp; omega)).trans ((Below.heap_setCell _ _ _ k (by simp; omega)).trans (Below.heap_setCell _ _ _ k (by simp; omega))))
      generalize ((w3.setCell ⟨w2.heap.size, 0, none⟩ (.pointer (some ⟨p, 0, none⟩))).setCell ⟨w2.heap.size, 1, none⟩ (.int .i64 n)).setCell ⟨w2.heap.size, 2, none⟩ (.func (.func 93) #[] #[]) = WF at hEF hXF hwf ⊢
      obtain ⟨x0, x1, x2⟩ := cells3 hXF
      have hab := leaveBest_c hg p A A1 A2 n c c1 c2 WF hwf
      rw [HLN.out] at hab
      have HAB := hid hab
      clear hab hXF hwf
      go_wp2_with (go_at_call 94; with_reducible refine HAB.out.mono ?_; rintro e w4 ⟨⟨B, d, rfl, hsl⟩, hb4⟩; have HSL := hid hsl; clear hsl)
      go_ret2
      exact ⟨⟨B, d, rfl, HSL.out⟩, (hE2.trans hEF).trans hb4⟩
  · simp only [if_neg h0]
    have hne : (k != 0) = true := by simpa using h0
    have H0 := hid h0
    clear h0
    go_enter Try.func44, Try.ntmps44
    go_wp2_with (go_at_call 23; with_reducible refine (HCK.out _ (Ev.alloc (Ev.refl _) _)).mono ?_; rintro e w1 ⟨rfl, hb1⟩)
    go_ret2
    exact ⟨rfl, Ev.trans (Ev.alloc (Ev.refl _) _) hb1⟩

end Go.Proofs.Ytcecmphdmpeibaa

namespace Go.Proofs.Ytcecmphdmpeibaa
open Go.RowKit

def rgc (r : M.Rg) : List Value := [.int .i64 r.lo, .int .i64 r.hi]
theorem info33 : (Try.prog.info? 33).map (fun i => (i.zero, i.size, i.bytes)) = some (some (.agg #[.int .i64 0, .int .i64 0]), 2, 16) := by kernel_rfl

theorem set_pair : ∀ (ys : List M.Rg) (k : Nat) (r : M.Rg), k < ys.length → ((ys.flatMap rgc).set (k * 2) (.int .i64 r.lo)).set (k * 2 + 1) (.int .i64 r.hi) = (ys.set k r).flatMap rgc
  | [], _, _, h => by simp at h
  | y :: t, 0, r, _ => by simp [rgc, List.flatMap_cons]
  | y :: t, k + 1, r, h => by
    rw [List.flatMap_cons, List.set_cons_succ, List.flatMap_cons, ← set_pair t k r (by simpa using h)]
    show ((Value.int .i64 y.lo :: Value.int .i64 y.hi :: t.flatMap rgc).set ((k + 1) * 2) _).set ((k + 1) * 2 + 1) _ = _
    rw [show (k + 1) * 2 = k * 2 + 1 + 1 from by omega, List.set_cons_succ, List.set_cons_succ, List.set_cons_succ, List.set_cons_succ]
    rfl
theorem pair_get (ys : List M.Rg) (k : Nat) (h : k < ys.length) : (∃ v, (ys.flatMap rgc)[k * 2]? = some (.int .i64 v)) ∧ ∃ v, (ys.flatMap rgc)[k * 2 + 1]? = some (.int .i64 v) := by
  have hx : ys[k]? = some (ys[k]'h) := List.getElem?_eq_getElem _
  exact ⟨⟨_, flat_get rgc 2 ys (fun _ _ => rfl) k _ hx 0 _ rfl⟩, ⟨_, flat_get rgc 2 ys (fun _ _ => rfl) k _ hx 1 _ rfl⟩⟩

theorem made41 (D : Nat) : madeCells (Value.agg #[.int .i64 0, .int .i64 0]).cells (D * 2) = Array.replicate (D * 2) (.int .i64 0) := by
  unfold madeCells
  apply Array.ext
  · simp
  · intro i h1 h2
    have : i % 2 = 0 ∨ i % 2 = 1 := by omega
    rcases this with h | h <;> simp [Value.cells, h]

set_option maxRecDepth 100000 in
theorem make41 (D : Nat) (hD : D ≤ 3) (wx : World) : (Instr.makeSlice 41 (.int .i64 D) (.int .i64 D)).run Try.prog wx = .ok (.slice (some ⟨wx.heap.size, 0, none⟩) D D) (wx.alloc (.cells (Array.replicate (D * 2) (.int .i64 0)) 33)) := by
  obtain ⟨i0, hi, hz0, hz1, hz2⟩ := info_parts info33
  have := run_makeSlice wx 41 33 i0 _ Try.underlying41 hi hz0 .i64 .i64 D D (by omega) (by omega) (by rw [hz1]; omega) (by rw [hz2]; omega) (by omega)
  rw [hz1, Int.toNat_natCast] at this
  rw [this, made41 D]

theorem zeros_pair : ∀ D : Nat, Array.replicate (D * 2) (Value.int .i64 0) = ((List.replicate D (⟨0, 0⟩ : M.Rg)).flatMap rgc).toArray := by
  intro D
  induction D with
  | zero => rfl
  | succ D ih =>
    rw [List.replicate_succ, List.flatMap_cons]
    have : ((List.replicate D (⟨0, 0⟩ : M.Rg)).flatMap rgc) = List.replicate (D * 2) (Value.int .i64 0) := by
      have h := congrArg Array.toList ih
      simpa using h.symm
    rw [this, show (D + 1) * 2 = D * 2 + 1 + 1 from by omega]
    apply Array.ext'
    rw [Array.toList_replicate]
    simp [rgc, List.replicate_succ]

def M.done (f : M.Fl) : List M.Rg := (List.range f.wds.toNat).map fun (i : Nat) => M.bounds f i (M.truths f)

theorem begin_good {f : M.Fl} {b : Bool} (h : M.begin f b = 0) : Good f := by
  unfold M.begin at h
  split at h
  · exact good_of (by assumption)
  · rename_i h0; exact absurd h h0
theorem begin_some {f : M.Fl} {b : Bool} (h : M.begin f b = 0) : 0 < (M.truths f).length := by
  unfold M.begin at h
  split at h
  · split at h
    · split at h
      · simp at h
      · omega
    · simp at h
  · rename_i h0; exact absurd h h0

set_option maxRecDepth 100000 in
set_option maxHeartbeats 2000000 in
theorem Done_c (f : M.Fl) (A : Option Addr) (n c : Nat) (w : World) (hs : Sl tcs 5 w w.heap.size A n c f.ts) :
    Calls Try.prog 28 #[fv f (.slice A n c)] w fun e w' =>
      (if M.begin f true = 0 then ∃ B d, e = .returned (.tuple #[.slice B (M.done f).length d, .int .i64 0]) ∧ Sl rgc 2 w' w'.heap.size B (M.done f).length d (M.done f)
        else e = .returned (.tuple #[.slice none 0 0, .int .i64 (M.begin f true)])) ∧ Ev w w' := by
  have hbg := fun b W (hE : Ev w W) => begin_c f b A n c W (hs.ev hE)
  rw [fv_eq] at hbg ⊢
  by_cases hb : M.begin f true = 0
  · simp only [if_pos hb]
    have hg := begin_good hb
    have hne := begin_some hb
    have hd1 := hg.d1
    have hd3 := hg.d3
    obtain ⟨D, hD⟩ := Int.eq_ofNat_of_zero_le (show 0 ≤ f.wds by omega)
    have hD3 : D ≤ 3 := by omega
    have hdn : M.done f = (List.range D).map fun (i : Nat) => M.bounds f i (M.truths f) := by unfold M.done; rw [hD]; rfl
    have HDN := hid hdn
    clear hdn
    have hbg2 : ∀ W, Ev w W → Calls Try.prog 75 #[.agg #[.int .i64 f.rows, .int .i64 f.wds, .int .i64 f.lf.lo, .int .i64 f.lf.hi, .slice A n c], .bool true] W fun e w' => (∃ p A1 A2 c1 c2, e = .returned (.tuple #[.pointer (some ⟨p, 0, none⟩), .int .i64 0]) ∧ Wk w' p f (M.truths f) (M.finds f) A A1 A2 n c (M.truths f).length c1 (M.finds f).length c2) ∧ Ev W w' := fun W hE => Calls.mono (hbg true W hE) (by
      rintro e w' ⟨⟨v, he, h1, _⟩, h3⟩
      obtain ⟨p, A1, A2, c1, c2, rfl, hwk⟩ := h1 hb
      rw [hb] at he
      exact ⟨⟨p, A1, A2, c1, c2, he, hwk⟩, h3⟩)
    rw [hD] at hbg2 ⊢
    have HBG := hid hbg2
    have hmk := fun wx => make41 D hD3 wx
    clear hbg hbg2 hb
    go_enter Try.func28, Try.ntmps28
    go_wp2_with (go_at_call 75; with_reducible refine (HBG.out _ (Ev.alloc (Ev.refl _) _)).mono ?_; rintro e w1 ⟨⟨p, A1, A2, c1, c2, rfl, hwk⟩, hb1⟩; have hq1 := hid (hb1.heap (alloc1 w (.cells #[.int .i64 f.rows, .int .i64 D, .int .i64 f.lf.lo, .int .i64 f.lf.hi, .slice A n c] 36)).1); obtain ⟨g0, g1, g2, g3, g4⟩ := cells5 hq1.out; have hwl1 := heap_lt hq1.out; have HWK := hid hwk; clear hwk)
    have hE1 : Ev w w1 := Ev.trans (Ev.alloc (Ev.refl _) _) hb1
    have hM : (w1.alloc (.cells (Array.replicate (D * 2) (.int .i64 0)) 33)).heap[w1.heap.size]? = some (.cells ((List.replicate D (⟨0, 0⟩ : M.Rg)).flatMap rgc).toArray 33 (0, 0)) := by rw [(alloc1 w1 (.cells (Array.replicate (D * 2) (.int .i64 0)) 33)).1, zeros_pair]
    have hE2 : Ev w1 (w1.alloc (.cells (Array.replicate (D * 2) (.int .i64 0)) 33)) := Ev.alloc (Ev.refl _) _
    generalize w1.alloc (.cells (Array.replicate (D * 2) (.int .i64 0)) 33) = W0 at hM hE2 ⊢
    have HM := hid hM
    clear hM hmk g0 g1 g2 g3 g4
    go_loopw [21] (fun v wr => ∃ k : Nat, ∃ ys : List M.Rg, v = .int .i64 k ∧ k ≤ D ∧ Ev w1 wr ∧ ys.length = D ∧ Hid (wr.heap[w1.heap.size]? = some (.cells (ys.flatMap rgc).toArray 33 (0, 0))) ∧ Hid (ys.take k = (M.done f).take k)) (fun v _ => D - (intOf v).toNat)
    case atStart => exact ⟨0, List.replicate D ⟨0, 0⟩, rfl, by omega, hE2, by simp, HM, hid rfl⟩
    case round =>
      obtain ⟨k, ys, rfl, hk, hB, hyl, HC, HT⟩ := hrel
      by_cases hlt : k < D
      · have hbn := fun W (hE : Ev w1 W) => bounds_c p k f (M.truths f) (M.finds f) A A1 A2 n c _ c1 _ c2 W (HWK.out.ev hE) hne
        have HBN := hid hbn
        clear hbn
        have hfacts : ∀ (w2 : World), w2.heap[w1.heap.size]? = some (.cells (ys.flatMap rgc).toArray 33 (0, 0)) → ∃ u0 u1, w2.cell? ⟨w1.heap.size, k * 2, none⟩ = some (.int .i64 u0) ∧ w2.cell? ⟨w1.heap.size, k * 2 + 1, none⟩ = some (.int .i64 u1) ∧ w2.frozen? ⟨w1.heap.size, k * 2, none⟩ = false ∧ w2.frozen? ⟨w1.heap.size, k * 2 + 1, none⟩ = false := by
          intro w2 hc2
          obtain ⟨⟨u0, hu0⟩, ⟨u1, hu1⟩⟩ := pair_get ys k (by omega)
          exact ⟨u0, u1, by rw [cell_in hc2, List.getElem?_toArray]; exact hu0, by rw [cell_in hc2, List.getElem?_toArray]; exact hu1, frozen_in hc2 _, frozen_in hc2 _⟩
        have HFC := hid hfacts
        clear hfacts
        go_wp2_with (go_at_call 76; with_reducible refine (HBN.out _ hB).mono ?_; rintro e w2 ⟨rfl, hb2⟩; obtain ⟨u0, u1, x0, x1, z0, z1⟩ := HFC.out w2 (hb2.heap HC.out))
        refine ⟨⟨k + 1, ys.set k (M.bounds f k (M.truths f)), by go_num, by omega, Ev.setCell (Ev.setCell (hB.trans hb2) (by simp) _) (by simp) _, by simpa using hyl, hid ?_, hid ?_⟩, by simp [intOf]; omega⟩
        · rw [set_heap_same (set_heap_same (hb2.heap HC.out)), List.setIfInBounds_toArray, List.setIfInBounds_toArray, set_pair ys k _ (by omega)]
        · rw [List.take_add_one, List.take_add_one, List.take_set_of_le (Nat.le_refl _), HT.out, HDN.out]
          rw [List.getElem?_set_self (by omega), List.getElem?_map, List.getElem?_range hlt]
          rfl
      · have hkD : k = D := by omega
        subst hkD
        have hT := HT.out
        have hdl : (M.done f).length = k := by rw [HDN.out]; simp
        rw [List.take_of_length_le (by omega), List.take_of_length_le (by omega)] at hT
        have HT2 := hid hT
        have HDL := hid hdl
        clear hT hdl
        go_wp2
        go_ret2
        refine ⟨⟨some ⟨w1.heap.size, 0, none⟩, k, by rw [HDL.out]; rfl, ?_⟩, hE1.trans hB⟩
        rw [← HT2.out, hyl]
        refine ⟨hyl, Nat.le_refl _, by omega, fun _ => ⟨w1.heap.size, 0, rfl, heap_lt HC.out, fun j y hj i v hi => ?_⟩⟩
        rw [cell_in HC.out, List.getElem?_toArray, Nat.zero_add]
        exact flat_get rgc 2 ys (fun _ _ => rfl) j y hj i v hi
  · simp only [if_neg hb]
    generalize hk : M.begin f true = k at hb ⊢
    have hne : (k != 0) = true := by simpa using hb
    have hbg2 : ∀ W, Ev w W → Calls Try.prog 75 #[.agg #[.int .i64 f.rows, .int .i64 f.wds, .int .i64 f.lf.lo, .int .i64 f.lf.hi, .slice A n c], .bool true] W fun e w' => e = .returned (.tuple #[.pointer none, .int .i64 k]) ∧ Ev W w' := fun W hE => Calls.mono (hbg true W hE) (by
      rintro e w' ⟨⟨v, he, _, h2⟩, h3⟩
      rw [hk] at he h2
      rw [h2 hb] at he
      exact ⟨he, h3⟩)
    have HBG := hid hbg2
    clear hbg hbg2 hb hk
    go_enter Try.func28, Try.ntmps28
    go_wp2_with (go_at_call 75; with_reducible refine (HBG.out _ (Ev.alloc (Ev.refl _) _)).mono ?_; rintro e w1 ⟨rfl, hb1⟩)
    go_ret2
    exact ⟨rfl, Ev.trans (Ev.alloc (Ev.refl _) _) hb1⟩

end Go.Proofs.Ytcecmphdmpeibaa

namespace Go.Proofs.Ytcecmphdmpeibaa
open Go.RowKit

def M.proveAsk (f : M.Fl) (x : Int) (rows : List Int) : Bool := decide (M.begin f (M.hasWd f x) = 0) && (M.rises rows && (rows.all (M.hasRow f) && M.settles f x (M.truths f) rows))

set_option maxRecDepth 100000 in
set_option maxHeartbeats 2000000 in
theorem ProveAsk_c (f : M.Fl) (x : Int) (rows : List Int) (B : Option Addr) (m d : Nat) (A : Option Addr) (n c : Nat) (w : World) (hs : Sl tcs 5 w w.heap.size A n c f.ts) (hr : Sl ics 1 w w.heap.size B m d rows) :
    Calls Try.prog 37 #[fv f (.slice A n c), .int .i64 x, .slice B m d] w fun e w' => e = .returned (.bool (M.proveAsk f x rows)) ∧ Ev w w' := by
  have hhr := fun W => hasWd_e f A n c x W
  have hbg := fun b W (hE : Ev w W) => begin_c f b A n c W (hs.ev hE)
  have hrs := fun W (hE : Ev w W) => rises_c B m d rows W (hr.ev hE)
  have har := fun W (hE : Ev w W) => allRow_c f B A m d n c rows W (hr.ev hE)
  rw [fv_eq] at hhr hbg har ⊢
  have HHR := hid hhr
  have HRS := hid hrs
  have HAR := hid har
  generalize hbb : M.hasWd f x = b at HHR
  have HBB := hid hbb
  clear hhr hrs har
  have hpa : M.proveAsk f x rows = (decide (M.begin f b = 0) && (M.rises rows && (rows.all (M.hasRow f) && M.settles f x (M.truths f) rows))) := by unfold M.proveAsk; rw [hbb]
  rw [hpa]
  clear hpa
  by_cases hb : M.begin f b = 0
  · rw [show decide (M.begin f b = 0) = true by simpa using hb, Bool.true_and]
    have hg := begin_good hb
    have hbg2 : ∀ W, Ev w W → Calls Try.prog 75 #[.agg #[.int .i64 f.rows, .int .i64 f.wds, .int .i64 f.lf.lo, .int .i64 f.lf.hi, .slice A n c], .bool b] W fun e w' => (∃ p A1 A2 c1 c2, e = .returned (.tuple #[.pointer (some ⟨p, 0, none⟩), .int .i64 0]) ∧ Wk w' p f (M.truths f) (M.finds f) A A1 A2 n c (M.truths f).length c1 (M.finds f).length c2) ∧ Ev W w' := fun W hE => Calls.mono (hbg b W hE) (by
      rintro e w' ⟨⟨v, he, h1, _⟩, h3⟩
      obtain ⟨p, A1, A2, c1, c2, rfl, hwk⟩ := h1 hb
      rw [hb] at he
      exact ⟨⟨p, A1, A2, c1, c2, he, hwk⟩, h3⟩)
    have HBG := hid hbg2
    have hall : rows.all (M.hasRow f) = true → ∀ r ∈ rows, 0 ≤ r ∧ r ≤ 6 := fun h r hm => by
      have h1 := List.all_eq_true.1 h r hm
      simp only [M.hasRow, Bool.and_eq_true, decide_eq_true_eq] at h1
      have := hg.r7
      omega
    clear hbg hbg2 hbb hb
    generalize hri : M.rises rows = ri at HRS ⊢
    generalize hal : rows.all (M.hasRow f) = al at HAR hall ⊢
    have HALL := hid hall
    clear hall
    cases ri with
    | false =>
      rw [Bool.false_and]
      go_enter Try.func37, Try.ntmps37
      go_wp2
      generalize hW0 : World.alloc w _ = W0
      have hE0 : Ev w W0 := by rw [← hW0]; exact Ev.alloc (Ev.refl _) _
      have hal := alloc1 w (.cells #[.int .i64 f.rows, .int .i64 f.wds, .int .i64 f.lf.lo, .int .i64 f.lf.hi, .slice A n c] 36)
      rw [hW0] at hal
      obtain ⟨g0, g1, g2, g3, g4⟩ := cells5 hal.1
      have hwl := heap_lt hal.1
      have HQ0 := hid hal.1
      have HSE : Hid (∀ w', Ev W0 w' → Ev W0 w' ∧ (∀ b o, b < W0.heap.size → w'.cell? ⟨b, o, none⟩ = W0.cell? ⟨b, o, none⟩)) := hid (fun w' h => ⟨h, h.cells.1⟩)
      clear hal hW0
      go_region_held3 (fun w' => Ev W0 w' ∧ (∀ b o, b < W0.heap.size → w'.cell? ⟨b, o, none⟩ = W0.cell? ⟨b, o, none⟩)) (exact HSE.out _ (by repeat (first | with_reducible exact Ev.refl W0 | (with_reducible assumption) | with_reducible refine Ev.drew ?_))) (first | (go_at_call 81; with_reducible refine (HHR.out _).mono ?_; rintro e w1 ⟨rfl, hb1⟩; have hc1 : Ev W0 w1 := (by first | exact hb1 | exact Ev.trans (Ev.drew (Ev.refl _)) hb1)) | (go_at_call 75; with_reducible refine (HBG.out _ (hE0.trans (by first | exact hc1 | exact Ev.drew hc1))).mono ?_; rintro e w2 ⟨⟨p, A1, A2, c1, c2, rfl, hwk⟩, hb2⟩; have hc2 : Ev W0 w2 := (by first | exact hc1.trans hb2 | exact Ev.trans (Ev.drew hc1) hb2); have HWK := hid hwk; clear hwk))
      go_wp2_with (go_at_call 85; with_reducible refine (HRS.out _ (hE0.trans hc2)).mono ?_; rintro e w3 ⟨rfl, hb3⟩)
      go_ret
      exact ⟨rfl, hE0.trans (hc2.trans hb3)⟩
    | true =>
      rw [Bool.true_and]
      cases al with
      | false =>
        rw [Bool.false_and]
        go_enter Try.func37, Try.ntmps37
        go_wp2
        generalize hW0 : World.alloc w _ = W0
        have hE0 : Ev w W0 := by rw [← hW0]; exact Ev.alloc (Ev.refl _) _
        have hal := alloc1 w (.cells #[.int .i64 f.rows, .int .i64 f.wds, .int .i64 f.lf.lo, .int .i64 f.lf.hi, .slice A n c] 36)
        rw [hW0] at hal
        obtain ⟨g0, g1, g2, g3, g4⟩ := cells5 hal.1
        have hwl := heap_lt hal.1
        have HQ0 := hid hal.1
        have HSE : Hid (∀ w', Ev W0 w' → Ev W0 w' ∧ (∀ b o, b < W0.heap.size → w'.cell? ⟨b, o, none⟩ = W0.cell? ⟨b, o, none⟩)) := hid (fun w' h => ⟨h, h.cells.1⟩)
        clear hal hW0
        go_region_held3 (fun w' => Ev W0 w' ∧ (∀ b o, b < W0.heap.size → w'.cell? ⟨b, o, none⟩ = W0.cell? ⟨b, o, none⟩)) (exact HSE.out _ (by repeat (first | with_reducible exact Ev.refl W0 | (with_reducible assumption) | with_reducible refine Ev.drew ?_))) (first | (go_at_call 81; with_reducible refine (HHR.out _).mono ?_; rintro e w1 ⟨rfl, hb1⟩; have hc1 : Ev W0 w1 := (by first | exact hb1 | exact Ev.trans (Ev.drew (Ev.refl _)) hb1)) | (go_at_call 75; with_reducible refine (HBG.out _ (hE0.trans (by first | exact hc1 | exact Ev.drew hc1))).mono ?_; rintro e w2 ⟨⟨p, A1, A2, c1, c2, rfl, hwk⟩, hb2⟩; have hc2 : Ev W0 w2 := (by first | exact hc1.trans hb2 | exact Ev.trans (Ev.drew hc1) hb2); have HWK := hid hwk; clear hwk))
        go_wp2_with (first | (go_at_call 85; with_reducible refine (HRS.out _ (hE0.trans hc2)).mono ?_; rintro e w3 ⟨rfl, hb3⟩; obtain ⟨e0, e1, e2, e3, e4⟩ := cells5 (hb3.heap (hc2.heap HQ0.out))) | (go_at_call 68; with_reducible refine (HAR.out _ (hE0.trans (hc2.trans hb3))).mono ?_; rintro e w4 ⟨rfl, hb4⟩))
        go_ret
        exact ⟨rfl, hE0.trans (hc2.trans (hb3.trans hb4))⟩
      | true =>
        rw [Bool.true_and]
        have hrr := HALL.out rfl
        go_enter Try.func37, Try.ntmps37
        go_wp2
        generalize hW0 : World.alloc w _ = W0
        have hE0 : Ev w W0 := by rw [← hW0]; exact Ev.alloc (Ev.refl _) _
        have hal := alloc1 w (.cells #[.int .i64 f.rows, .int .i64 f.wds, .int .i64 f.lf.lo, .int .i64 f.lf.hi, .slice A n c] 36)
        rw [hW0] at hal
        obtain ⟨g0, g1, g2, g3, g4⟩ := cells5 hal.1
        have hwl := heap_lt hal.1
        have HQ0 := hid hal.1
        have HSE : Hid (∀ w', Ev W0 w' → Ev W0 w' ∧ (∀ b o, b < W0.heap.size → w'.cell? ⟨b, o, none⟩ = W0.cell? ⟨b, o, none⟩)) := hid (fun w' h => ⟨h, h.cells.1⟩)
        clear hal hW0
        go_region_held3 (fun w' => Ev W0 w' ∧ (∀ b o, b < W0.heap.size → w'.cell? ⟨b, o, none⟩ = W0.cell? ⟨b, o, none⟩)) (exact HSE.out _ (by repeat (first | with_reducible exact Ev.refl W0 | (with_reducible assumption) | with_reducible refine Ev.drew ?_))) (first | (go_at_call 81; with_reducible refine (HHR.out _).mono ?_; rintro e w1 ⟨rfl, hb1⟩; have hc1 : Ev W0 w1 := (by first | exact hb1 | exact Ev.trans (Ev.drew (Ev.refl _)) hb1)) | (go_at_call 75; with_reducible refine (HBG.out _ (hE0.trans (by first | exact hc1 | exact Ev.drew hc1))).mono ?_; rintro e w2 ⟨⟨p, A1, A2, c1, c2, rfl, hwk⟩, hb2⟩; have hc2 : Ev W0 w2 := (by first | exact hc1.trans hb2 | exact Ev.trans (Ev.drew hc1) hb2); have HWK := hid hwk; clear hwk))
        go_wp2_with (first | (go_at_call 85; with_reducible refine (HRS.out _ (hE0.trans hc2)).mono ?_; rintro e w3 ⟨rfl, hb3⟩; obtain ⟨e0, e1, e2, e3, e4⟩ := cells5 (hb3.heap (hc2.heap HQ0.out))) | (go_at_call 68; with_reducible refine (HAR.out _ (hE0.trans (hc2.trans hb3))).mono ?_; rintro e w4 ⟨rfl, hb4⟩) | (go_at_call 82; refine (ask_c p x w4).mono ?_; unfold askv; rintro e w5 ⟨⟨mb, rfl, _, _⟩, hb5⟩) | (go_at_call 83; refine (settles_c p x mb B m d rows hrr f (M.truths f) (truths_wf hg) (M.finds f) A A1 A2 n c _ c1 _ c2 w5 (HWK.out.ev (hb3.trans (hb4.trans hb5))) (hr.ev (hE0.trans (hc2.trans (hb3.trans (hb4.trans hb5)))))).mono ?_; rintro e w6 ⟨rfl, hb6⟩))
        go_ret
        exact ⟨rfl, hE0.trans (hc2.trans (hb3.trans (hb4.trans (hb5.trans hb6))))⟩
  · rw [show decide (M.begin f b = 0) = false by simpa using hb, Bool.false_and]
    generalize hk : M.begin f b = k at hb
    have hne : (k != 0) = true := by simpa using hb
    have hbg2 : ∀ W, Ev w W → Calls Try.prog 75 #[.agg #[.int .i64 f.rows, .int .i64 f.wds, .int .i64 f.lf.lo, .int .i64 f.lf.hi, .slice A n c], .bool b] W fun e w' => e = .returned (.tuple #[.pointer none, .int .i64 k]) ∧ Ev W w' := fun W hE => Calls.mono (hbg b W hE) (by
      rintro e w' ⟨⟨v, he, _, h2⟩, h3⟩
      rw [hk] at he h2
      rw [h2 hb] at he
      exact ⟨he, h3⟩)
    have HBG := hid hbg2
    clear hbg hbg2 hbb hb hk
    go_enter Try.func37, Try.ntmps37
    go_wp2
    generalize hW0 : World.alloc w _ = W0
    have hE0 : Ev w W0 := by rw [← hW0]; exact Ev.alloc (Ev.refl _) _
    have hal := alloc1 w (.cells #[.int .i64 f.rows, .int .i64 f.wds, .int .i64 f.lf.lo, .int .i64 f.lf.hi, .slice A n c] 36)
    rw [hW0] at hal
    obtain ⟨g0, g1, g2, g3, g4⟩ := cells5 hal.1
    have hwl := heap_lt hal.1
    have HQ0 := hid hal.1
    have HSE : Hid (∀ w', Ev W0 w' → Ev W0 w' ∧ (∀ b o, b < W0.heap.size → w'.cell? ⟨b, o, none⟩ = W0.cell? ⟨b, o, none⟩)) := hid (fun w' h => ⟨h, h.cells.1⟩)
    clear hal hW0
    go_region_held3 (fun w' => Ev W0 w' ∧ (∀ b o, b < W0.heap.size → w'.cell? ⟨b, o, none⟩ = W0.cell? ⟨b, o, none⟩)) (exact HSE.out _ (by repeat (first | with_reducible exact Ev.refl W0 | (with_reducible assumption) | with_reducible refine Ev.drew ?_))) (first | (go_at_call 81; with_reducible refine (HHR.out _).mono ?_; rintro e w1 ⟨rfl, hb1⟩; have hc1 : Ev W0 w1 := (by first | exact hb1 | exact Ev.trans (Ev.drew (Ev.refl _)) hb1)) | (go_at_call 75; with_reducible refine (HBG.out _ (hE0.trans (by first | exact hc1 | exact Ev.drew hc1))).mono ?_; rintro e w2 ⟨rfl, hb2⟩; have hc2 : Ev W0 w2 := (by first | exact hc1.trans hb2 | exact Ev.trans (Ev.drew hc1) hb2)))
    go_wp2
    go_ret
    exact ⟨rfl, hE0.trans hc2⟩

end Go.Proofs.Ytcecmphdmpeibaa

namespace Go.Proofs.Ytcecmphdmpeibaa
open Go.RowKit

def M.same (row : Nat) (ts : List (List Int)) : Bool := ts.all fun t => t.getD row 0 == (ts.headD []).getD row 0
def M.leastOf : List Int → Int
  | [] => 0
  | a :: r => M.least a r
def M.saids (f : M.Fl) : List Int := (List.range (f.wds + 1).toNat).map fun (i : Nat) => (i : Int) - 1
def M.maxes (g : Int → Int) : List Int → Int → Int
  | [], a => a
  | s :: r, a => M.maxes g r (max a (g s))
/-- The questions, with fuel. -/
def M.qn (f : M.Fl) (x : Int) : Nat → List (List Int) → Int
  | 0, _ => 0
  | n + 1, ts => if M.known f x ts then 0 else M.leastOf ((List.range f.rows.toNat).map fun row => if M.same row ts then 8 else 1 + M.maxes (fun s => M.qn f x n (M.agreeing ts row s)) (M.saids f) 0)
def M.q (f : M.Fl) (x : Int) (ts : List (List Int)) : Int := M.qn f x ts.length ts
def M.worst (f : M.Fl) (x : Int) (ts : List (List Int)) (row : Nat) : Int := M.maxes (fun s => M.q f x (M.agreeing ts row s)) (M.saids f) 0
def M.cost (f : M.Fl) (x : Int) (ts : List (List Int)) (row : Nat) : Int := if M.same row ts then 8 else 1 + M.worst f x ts row
def M.costs (f : M.Fl) (x : Int) (ts : List (List Int)) : List Int := (List.range f.rows.toNat).map (M.cost f x ts)

theorem M.agree_lt {ts : List (List Int)} {row : Nat} (h : M.same row ts = false) (s : Int) : (M.agreeing ts row s).length < ts.length := by
  unfold M.agreeing
  have h1 : (ts.filter fun t => t.getD row 0 == s).length ≤ ts.length := List.length_filter_le _ _
  rcases Nat.lt_or_ge (ts.filter fun t => t.getD row 0 == s).length ts.length with h2 | h2
  · exact h2
  · exfalso
    have h3 : ∀ t ∈ ts, (t.getD row 0 == s) = true := List.length_filter_eq_length_iff.1 (by omega)
    have h4 : M.same row ts = true := by
      unfold M.same
      rw [List.all_eq_true]
      intro t ht
      cases ts with
      | nil => cases ht
      | cons u r =>
        have a := h3 t ht
        have b := h3 u (by simp)
        simp at a b ⊢
        rw [a, b]
    rw [h4] at h; cases h

theorem M.known_nil (f : M.Fl) (x : Int) : M.known f x [] = true := rfl
theorem M.qn_fuel (f : M.Fl) (x : Int) : ∀ (n m : Nat) (ts : List (List Int)), ts.length ≤ n → ts.length ≤ m → M.qn f x n ts = M.qn f x m ts
  | 0, 0, _, _, _ => rfl
  | 0, m + 1, ts, h, _ => by
    obtain rfl : ts = [] := List.eq_nil_of_length_eq_zero (by omega)
    simp [M.qn, M.known_nil]
  | n + 1, 0, ts, _, h => by
    obtain rfl : ts = [] := List.eq_nil_of_length_eq_zero (by omega)
    simp [M.qn, M.known_nil]
  | n + 1, m + 1, ts, h, h' => by
    unfold M.qn
    split
    · rfl
    · congr 1
      refine List.map_congr_left fun row _ => ?_
      split
      · rfl
      · rename_i hs
        have hs' : M.same row ts = false := by simpa using hs
        congr 2
        funext s
        have := M.agree_lt hs' s
        exact M.qn_fuel f x n m _ (by omega) (by omega)

theorem M.q_eq (f : M.Fl) (x : Int) (ts : List (List Int)) : M.q f x ts = if M.known f x ts then 0 else M.leastOf (M.costs f x ts) := by
  unfold M.q
  cases ts with
  | nil => simp [M.qn, M.known_nil]
  | cons t r =>
    rw [List.length_cons]
    unfold M.qn
    split
    · rfl
    · congr 1
      unfold M.costs
      refine List.map_congr_left fun row _ => ?_
      unfold M.cost
      split
      · rfl
      · rename_i hs
        have hs' : M.same row (t :: r) = false := by simpa using hs
        unfold M.worst
        congr 2
        funext s
        have := M.agree_lt hs' s
        rw [List.length_cons] at this
        exact M.qn_fuel f x _ _ _ (by omega) (Nat.le_refl _)

theorem M.least_le (a : Int) : ∀ (l : List Int), M.least a l ≤ a ∧ ∀ y ∈ l, M.least a l ≤ y := by
  intro l
  induction l generalizing a with
  | nil => simp [M.least]
  | cons y r ih =>
    unfold M.least
    have := ih (if y < a then y else a)
    refine ⟨?_, ?_⟩
    · split at this <;> rename_i h <;> simp only [h, if_true, if_false] <;> omega
    · intro z hz
      rcases List.mem_cons.1 hz with rfl | hz
      · split at this <;> rename_i h <;> simp only [h, if_true, if_false] <;> omega
      · exact this.2 z hz
theorem M.least_mem (a : Int) : ∀ (l : List Int), M.least a l = a ∨ M.least a l ∈ l := by
  intro l
  induction l generalizing a with
  | nil => simp [M.least]
  | cons y r ih =>
    unfold M.least
    have := ih (if y < a then y else a)
    rcases this with h | h
    · rw [h]
      split
      · exact .inr (by simp)
      · exact .inl rfl
    · exact .inr (by simp [h])
theorem M.leastOf_le {l : List Int} {y : Int} (h : y ∈ l) : M.leastOf l ≤ y := by
  cases l with
  | nil => cases h
  | cons a r =>
    have := M.least_le a r
    rcases List.mem_cons.1 h with rfl | h
    · exact this.1
    · exact this.2 y h
theorem M.leastOf_mem {l : List Int} (h : l ≠ []) : M.leastOf l ∈ l := by
  cases l with
  | nil => exact absurd rfl h
  | cons a r => exact List.mem_cons.2 (M.least_mem a r)

theorem M.maxes_bd (g : Int → Int) (K : Int) : ∀ (l : List Int) (a : Int), (∀ s ∈ l, g s ≤ K) → a ≤ K → a ≤ M.maxes g l a ∧ M.maxes g l a ≤ K
  | [], a, _, h => by simp [M.maxes, h]
  | s :: r, a, h, ha => by
    unfold M.maxes
    have hs := h s (by simp)
    have := M.maxes_bd g K r (max a (g s)) (fun z hz => h z (by simp [hz])) (by omega)
    omega
theorem M.q_bd {f : M.Fl} (hr : 1 ≤ f.rows) (x : Int) : ∀ (n : Nat) (ts : List (List Int)), ts.length ≤ n → 0 ≤ M.q f x ts ∧ M.q f x ts ≤ n + 8 := by
  intro n
  induction n with
  | zero =>
    intro ts h
    obtain rfl : ts = [] := List.eq_nil_of_length_eq_zero (by omega)
    rw [M.q_eq, M.known_nil]; simp
  | succ n ih =>
    intro ts h
    rw [M.q_eq]
    split
    · simp; omega
    · have hc : ∀ y ∈ M.costs f x ts, 0 ≤ y ∧ y ≤ (n + 1 : Nat) + 8 := by
        intro y hy
        unfold M.costs at hy
        obtain ⟨row, _, rfl⟩ := List.mem_map.1 hy
        unfold M.cost
        split
        · omega
        · rename_i hs
          have hs' : M.same row ts = false := by simpa using hs
          have := M.maxes_bd (fun s => M.q f x (M.agreeing ts row s)) (n + 8) (M.saids f) 0 (fun s _ => (ih _ (by have := M.agree_lt hs' s; omega)).2) (by omega)
          unfold M.worst
          omega
      exact hc _ (M.leastOf_mem (by unfold M.costs; simp; omega))

/-- The truths that agree with what was answered (-2: not asked). -/
def M.sel (ans : List Int) (T : List (List Int)) : List (List Int) := T.filter fun t => (List.range 7).all fun r => ans.getD r 0 == -2 || t.getD r 0 == ans.getD r 0

theorem M.sel_blank (T : List (List Int)) : M.sel M.blank T = T := by
  unfold M.sel
  rw [List.filter_eq_self]
  intro t _
  simp [M.blank, List.range_succ]

theorem getD_set {l : List Int} {i : Nat} {v : Int} (hi : i < l.length) (j : Nat) : (l.set i v).getD j 0 = if j = i then v else l.getD j 0 := by
  rw [List.getD_eq_getElem?_getD, List.getElem?_set]
  by_cases h : i = j
  · subst h; simp [hi]
  · rw [if_neg h, if_neg (fun e => h e.symm), List.getD_eq_getElem?_getD]

theorem M.sel_set {ans : List Int} {T : List (List Int)} {row : Nat} {said : Int} (hl : ans.length = 7) (hr : row ≤ 6) (h2 : ans.getD row 0 = -2) (hs : said ≠ -2) :
    M.sel (ans.set row said) T = M.agreeing (M.sel ans T) row said := by
  unfold M.sel M.agreeing
  rw [List.filter_filter]
  refine List.filter_congr fun t _ => ?_
  rw [Bool.eq_iff_iff]
  simp only [List.all_eq_true, List.mem_range, Bool.or_eq_true, beq_iff_eq, Bool.and_eq_true]
  constructor
  · intro h
    have h0 := h row (by omega)
    rw [getD_set (by omega), if_pos rfl] at h0
    refine ⟨h0.resolve_left hs, fun r hr7 => ?_⟩
    by_cases e : r = row
    · subst e; exact .inl h2
    · have := h r hr7
      rwa [getD_set (by omega), if_neg e] at this
  · intro ⟨h0, h⟩ r hr7
    rw [getD_set (by omega)]
    by_cases e : r = row
    · subst e; rw [if_pos rfl]; exact .inr h0
    · rw [if_neg e]; exact h r hr7

theorem M.sel_open {ans : List Int} {T : List (List Int)} {row : Nat} (hr : row ≤ 6) (h : M.same row (M.sel ans T) = false) : ans.getD row 0 = -2 := by
  by_cases h2 : ans.getD row 0 = -2
  · exact h2
  · exfalso
    have hall : ∀ t ∈ M.sel ans T, t.getD row 0 = ans.getD row 0 := by
      intro t ht
      have := (List.mem_filter.1 ht).2
      rw [List.all_eq_true] at this
      have := this row (List.mem_range.2 (by omega))
      simp only [Bool.or_eq_true, beq_iff_eq] at this
      exact this.resolve_left h2
    have : M.same row (M.sel ans T) = true := by
      unfold M.same
      rw [List.all_eq_true]
      intro t ht
      cases hs : M.sel ans T with
      | nil => rw [hs] at ht; cases ht
      | cons u r =>
        rw [hs] at hall ht
        simp only [List.headD_cons, beq_iff_eq]
        rw [hall t ht, hall u (by simp)]
    rw [this] at h; cases h

/-- The call has only made memory, and written to the map in block mb. -/
def Mo (mb : Nat) (w w' : World) : Prop := w.grownBy w' (some mb)
theorem Mo.refl (mb : Nat) (w : World) : Mo mb w w := ⟨rfl, rfl, rfl, Nat.le_refl _, fun _ _ _ => rfl⟩
theorem Mo.ev {mb : Nat} {a b : World} (h : Ev a b) : Mo mb a b := ⟨h.os, h.tape, h.output, h.size, fun k hk _ => h.block k hk⟩
theorem Mo.size {mb : Nat} {a b : World} (h : Mo mb a b) : a.heap.size ≤ b.heap.size := World.grownBy.size h
theorem Mo.trans {mb : Nat} {a b c : World} (h : Mo mb a b) (k : Mo mb b c) : Mo mb a c :=
  ⟨(World.grownBy.os k).trans (World.grownBy.os h), (World.grownBy.tape k).trans (World.grownBy.tape h), (World.grownBy.output k).trans (World.grownBy.output h), Nat.le_trans h.size k.size,
    fun i hi hn => (World.grownBy.block k i (Nat.lt_of_lt_of_le hi h.size) hn).trans (World.grownBy.block h i hi hn)⟩
theorem Mo.heap {mb : Nat} {a b : World} (h : Mo mb a b) {k : Nat} {o : Obj} (hk : a.heap[k]? = some o) (hne : k ≠ mb) : b.heap[k]? = some o := grown_heap h hk hne
theorem Mo.cells {mb : Nat} {a b : World} (h : Mo mb a b) : (∀ k o, k < a.heap.size → k ≠ mb → b.cell? ⟨k, o, none⟩ = a.cell? ⟨k, o, none⟩) ∧ (∀ k o, k < a.heap.size → k ≠ mb → b.frozen? ⟨k, o, none⟩ = a.frozen? ⟨k, o, none⟩) :=
  ⟨fun k o hk hne => World.cell?_of_block (a := ⟨k, o, none⟩) (World.grownBy.block h k hk (by simpa using hne)), fun k o hk hne => World.frozen?_of_block (a := ⟨k, o, none⟩) (World.grownBy.block h k hk (by simpa using hne))⟩
theorem Mo.alloc {mb : Nat} {a b : World} (h : Mo mb a b) (o : Obj) : Mo mb a (b.alloc o) := h.trans (Mo.ev (Ev.alloc (Ev.refl _) o))
theorem Mo.drew {mb : Nat} {a b : World} (h : Mo mb a b) : Mo mb a b.drew := h.trans (Mo.ev (Ev.drew (Ev.refl _)))
theorem Mo.drewN {mb : Nat} {a b : World} (h : Mo mb a b) (n : Nat) : Mo mb a (b.drewN n) := h.trans (Mo.ev (Ev.drewN (Ev.refl _) n))
theorem Mo.setCell {mb : Nat} {a b : World} (h : Mo mb a b) {p : Addr} (hp : a.heap.size ≤ p.block) (v : Value) : Mo mb a (b.setCell p v) :=
  ⟨(show b.os = a.os from World.grownBy.os h), (show b.tape = a.tape from World.grownBy.tape h), (show b.output = a.output from World.grownBy.output h), by simpa [World.setCell] using h.size, fun k hk hn => (Below.heap_setCell _ _ _ _ (by omega)).trans (World.grownBy.block h k hk hn)⟩
theorem Mo.evr {mb : Nat} {a b c : World} (h : Ev a b) (k : Mo mb b c) (hm : a.heap.size ≤ mb) : Ev a c := Ev.grown h k (fun j e => by cases e; exact hm)

theorem cell_map {w : World} {b : Nat} {es : Array MapEntry} {ck : Nat} (h : w.heap[b]? = some (.map es ck)) (j : Nat) : w.cell? ⟨b, j, none⟩ = none := by
  simp [World.cell?, h]

theorem Sl.mo {α : Type} {enc : α → List Value} {sz : Nat} {w w' : World} {B B' mb : Nat} {A : Option Addr} {n c : Nat} {xs : List α} {P : Program} {kt : TypeId} {g : Value → Option Value}
    (h : Sl enc sz w B A n c xs) (hm : MapIs P kt w mb g) (hb : Mo mb w w') (hB : B ≤ w.heap.size) (hB' : B ≤ B') : Sl enc sz w' B' A n c xs := by
  obtain ⟨es, ck, hh, _⟩ := hm
  refine ⟨h.len, h.cap, h.small, fun hn => ?_⟩
  obtain ⟨b, off, hA, hlt, hc⟩ := h.cells hn
  refine ⟨b, off, hA, by omega, fun k x hk j v hj => ?_⟩
  have h0 := hc k x hk j v hj
  have hne : b ≠ mb := by
    rintro rfl
    rw [cell_map hh] at h0; cases h0
  exact (hb.cells.1 b _ (by omega) hne).trans h0

theorem Wk.mo {w w' : World} {p mb : Nat} {f : M.Fl} {ts : List (List Int)} {fs : List (List Bool)} {A A1 A2 : Option Addr} {n c n1 c1 n2 c2 : Nat} {P : Program} {kt : TypeId} {g : Value → Option Value}
    (h : Wk w p f ts fs A A1 A2 n c n1 c1 n2 c2) (hm : MapIs P kt w mb g) (he : Mo mb w w') : Wk w' p f ts fs A A1 A2 n c n1 c1 n2 c2 := by
  have hne : p ≠ mb := by
    obtain ⟨es, ck, hh, _⟩ := hm
    rintro rfl
    rw [h.blk] at hh; cases hh
  exact ⟨he.heap h.blk hne, h.tal.mo hm he (Nat.le_refl _) he.size, h.tru.mo hm he (Nat.le_refl _) he.size, h.fau.mo hm he (Nat.le_refl _) he.size, h.t7, h.f5, h.r1, h.r7, h.d1, h.d3⟩

/-- What is remembered is right. -/
def Memo (f : M.Fl) (x : Int) (T : List (List Int)) (g : Value → Option Value) : Prop := ∀ k v, g k = some v → ∃ ans : List Int, k = sv ans ∧ v = .int .i64 (M.q f x (M.sel ans T))
theorem Memo.none (f : M.Fl) (x : Int) (T : List (List Int)) : Memo f x T (fun _ => none) := fun _ _ h => by cases h
theorem Memo.at_ {f : M.Fl} {x : Int} {T : List (List Int)} {g : Value → Option Value} (h : Memo f x T g) {ans : List Int} {v : Value} (hg : g (sv ans) = some v) : v = .int .i64 (M.q f x (M.sel ans T)) := by
  obtain ⟨a', hk, hv⟩ := h _ _ hg
  rw [sv_inj hk]; exact hv
open Classical in
theorem Memo.put {f : M.Fl} {x : Int} {T : List (List Int)} {g : Value → Option Value} (h : Memo f x T g) (ans : List Int) :
    Memo f x T (fun k => if k = sv ans then some (.int .i64 (M.q f x (M.sel ans T))) else g k) := by
  intro k v hk
  simp only [] at hk
  split at hk
  · rename_i e
    exact ⟨ans, e, by cases hk; rfl⟩
  · exact h k v hk

/-- The map in block mb is one that remembers what is right. -/
def Rem (f : M.Fl) (x : Int) (T : List (List Int)) (mb : Nat) (w : World) : Prop := ∃ g, MapIs Try.prog 101 w mb g ∧ Memo f x T g
theorem Rem.ev {f : M.Fl} {x : Int} {T : List (List Int)} {mb : Nat} {w w' : World} (h : Rem f x T mb w) (he : Ev w w') : Rem f x T mb w' := by
  obtain ⟨g, h1, h2⟩ := h
  exact ⟨g, h1.keep (Below.evr he (Nat.le_refl _)) h1.lt, h2⟩
theorem Rem.set {f : M.Fl} {x : Int} {T : List (List Int)} {mb : Nat} {w : World} (h : Rem f x T mb w) {a : Addr} (hne : mb ≠ a.block) (v : Value) : Rem f x T mb (w.setCell a v) := by
  obtain ⟨g, h1, h2⟩ := h
  exact ⟨g, h1.same (Below.heap_setCell _ _ _ _ hne), h2⟩

end Go.Proofs.Ytcecmphdmpeibaa

namespace Go.Proofs.Ytcecmphdmpeibaa
open Go.RowKit

/-- What the questions give for at most N truths. -/
def QC (f : M.Fl) (x : Int) (T : List (List Int)) (fs : List (List Bool)) (p mb : Nat) (A A1 A2 : Option Addr) (n c n1 c1 n2 c2 : Nat) (N : Nat) : Prop :=
  ∀ (ans : List Int) (B : Option Addr) (m d : Nat) (w : World), (M.sel ans T).length ≤ N → ans.length = 7 → (∀ y ∈ ans, Wf y) → Wk w p f T fs A A1 A2 n c n1 c1 n2 c2 → Rem f x T mb w → Sl scs 7 w w.heap.size B m d (M.sel ans T) →
    Calls Try.prog 126 #[askv p x (.map (some mb)), sv ans, .slice B m d] w fun e w' => e = .returned (.int .i64 (M.q f x (M.sel ans T))) ∧ Rem f x T mb w' ∧ Mo mb w w'

theorem wf_set {l : List Int} (h : ∀ y ∈ l, Wf y) {i : Nat} {v : Int} (hv : Wf v) : ∀ y ∈ l.set i v, Wf y := by
  intro y hy
  rcases List.mem_or_eq_of_mem_set hy with hy | hy
  · exact h y hy
  · rw [hy]; exact hv

theorem saids_drop {f : M.Fl} {D : Nat} (hD : f.wds = D) {k : Nat} (hk : k < D + 1) : (M.saids f).drop k = ((k : Int) - 1) :: (M.saids f).drop (k + 1) := by
  refine drop_some ?_
  unfold M.saids
  rw [hD, List.getElem?_map, show ((D : Int) + 1).toNat = D + 1 from by omega, List.getElem?_range hk]; rfl
theorem saids_end {f : M.Fl} {D : Nat} (hD : f.wds = D) : (M.saids f).drop (D + 1) = [] := by
  refine List.drop_eq_nil_of_le ?_
  unfold M.saids
  rw [hD]; simp

set_option maxRecDepth 100000 in
set_option maxHeartbeats 2000000 in
theorem worst_c {f : M.Fl} {x : Int} {T : List (List Int)} {fs : List (List Bool)} {p mb : Nat} {A A1 A2 : Option Addr} {n c n1 c1 n2 c2 N : Nat} (hq : QC f x T fs p mb A A1 A2 n c n1 c1 n2 c2 N) (hT7 : ∀ t ∈ T, t.length = 7) (hN : N ≤ 16384)
    (ans : List Int) (row : Nat) (B : Option Addr) (m d : Nat) (w : World) (hr6 : row ≤ 6) (hns : M.same row (M.sel ans T) = false) (hle : (M.sel ans T).length ≤ N + 1) (hl : ans.length = 7) (hwf : ∀ y ∈ ans, Wf y)
    (hw : Wk w p f T fs A A1 A2 n c n1 c1 n2 c2) (hrem : Rem f x T mb w) (hs : Sl scs 7 w w.heap.size B m d (M.sel ans T)) :
    Calls Try.prog 116 #[askv p x (.map (some mb)), sv ans, .int .i64 row, .slice B m d] w fun e w' => e = .returned (.int .i64 (M.worst f x (M.sel ans T) row)) ∧ Rem f x T mb w' ∧ Mo mb w w' := by
  have hopen := M.sel_open hr6 hns
  have hlt0 := M.agree_lt hns
  have hd1 := hw.d1
  have hd3 := hw.d3
  have hr1 := hw.r1
  obtain ⟨D, hD⟩ := Int.eq_ofNat_of_zero_le (show 0 ≤ f.wds by omega)
  have hmbl : mb < w.heap.size := by obtain ⟨g, hm, _⟩ := hrem; exact hm.lt
  have hpl := heap_lt hw.blk
  have hpm : p ≠ mb := by
    obtain ⟨g, ⟨es, ck, hh, _⟩, _⟩ := hrem
    rintro rfl
    rw [hw.blk] at hh; cases hh
  obtain ⟨a0, a1, a2, a3, a4, a5, a6, he⟩ := list7 hl
  have hsv : sv ans = .agg #[.int .i64 a0, .int .i64 a1, .int .i64 a2, .int .i64 a3, .int .i64 a4, .int .i64 a5, .int .i64 a6] := by rw [he]; rfl
  have hblk : (.cells #[.int .i64 a0, .int .i64 a1, .int .i64 a2, .int .i64 a3, .int .i64 a4, .int .i64 a5, .int .i64 a6] 101 (0, 0) : Obj) = .cells (ans.map (Value.int .i64)).toArray 101 (0, 0) := by rw [he]; rfl
  rw [hsv]
  have HBLK := hid hblk
  have HD := hid hD
  have HL := hid hl
  have HO := hid hopen
  have HNS := hid hns
  clear he hsv hblk hD hl hopen hns
  unfold askv
  go_enter Try.func116, Try.ntmps116
  go_wp2
  generalize hW0 : World.alloc (World.alloc w _) _ = W0
  have hE0 : Ev w W0 := by rw [← hW0]; exact Ev.alloc (Ev.alloc (Ev.refl _) _) _
  have hal := alloc2 w (.cells #[.pointer (some ⟨p, 0, none⟩), .int .i64 x, .map (some mb)] 116) (.cells #[.int .i64 a0, .int .i64 a1, .int .i64 a2, .int .i64 a3, .int .i64 a4, .int .i64 a5, .int .i64 a6] 101)
  rw [hW0] at hal
  have Q0 := hid hal.1
  have Q1 := hid hal.2.1
  rw [HBLK.out] at Q1
  clear hal hW0
  go_loopw [9, 10] (fun v i wr => ∃ (k : Nat) (a : Int) (y : List Int), i = .int .i64 ((k : Int) - 1) ∧ k ≤ D + 1 ∧ v = .int .i64 a ∧ 0 ≤ a ∧ a ≤ 20000 ∧ Mo mb w wr ∧ Rem f x T mb wr ∧ Hid (wr.heap[w.heap.size]? = some (.cells #[.pointer (some ⟨p, 0, none⟩), .int .i64 x, .map (some mb)] 116 (0, 0))) ∧ Hid (wr.heap[w.heap.size + 1]? = some (.cells (y.map (Value.int .i64)).toArray 101 (0, 0))) ∧ y.length = 7 ∧ Hid (∀ s, y.set row s = ans.set row s) ∧ Hid (M.maxes (fun s => M.q f x (M.agreeing (M.sel ans T) row s)) ((M.saids f).drop k) a = M.worst f x (M.sel ans T) row)) (fun _ i _ => D + 1 - (intOf i + 1).toNat)
  case atStart => exact ⟨0, 0, ans, rfl, by omega, rfl, by omega, by omega, Mo.ev hE0, hrem.ev hE0, Q0, Q1, HL.out, hid (fun _ => rfl), hid rfl⟩
  case round =>
    obtain ⟨k, a, y, rfl, hk, rfl, ha0, ha1, hB, hR, HA, HY, hy7, HS, HP⟩ := hrel
    obtain ⟨q0, q1, q2⟩ := cells3 HA.out
    obtain ⟨k0, k1, k2, k3, k4, k5, k6⟩ := cells7 (hB.heap hw.blk hpm)
    by_cases hlt : k < D + 1
    · have hlt1 : (k : Int) - 1 < f.wds := by have := HD.out; omega
      have h7 : (row : Int) < 7 := by omega
      have hyr : wr.cell? ⟨w.heap.size + 1, row, none⟩ = some (.int .i64 (y.getD row 0)) := by
        rw [cell_in HY.out row, List.getElem?_toArray, List.getElem?_map, getD7 hy7 hr6]; rfl
      generalize y.getD row 0 = yr at hyr
      have hzr := frozen_in HY.out row
      go_upto_region 6 with fail
      generalize hW1 : World.setCell wr _ _ = W1
      have hY1 : W1.heap[w.heap.size + 1]? = some (.cells ((ans.set row ((k : Int) - 1)).map (Value.int .i64)).toArray 101 (0, 0)) := by
        rw [← hW1, set_heap_same HY.out, ← HS.out]; simp [List.map_set]
      have hB1 : Mo mb w W1 := by rw [← hW1]; exact hB.setCell (by simp) _
      have hR1 : Rem f x T mb W1 := by rw [← hW1]; exact hR.set (by simp; omega) _
      have hA1 : W1.heap[w.heap.size]? = some (.cells #[.pointer (some ⟨p, 0, none⟩), .int .i64 x, .map (some mb)] 116 (0, 0)) := by rw [← hW1]; exact set_heap HA.out (by simp)
      obtain ⟨z0, z1, z2, z3, z4, z5, z6, hze⟩ := list7 (l := ans.set row ((k : Int) - 1)) (by simpa using HL.out)
      have hsz : sv (ans.set row ((k : Int) - 1)) = .agg #[.int .i64 z0, .int .i64 z1, .int .i64 z2, .int .i64 z3, .int .i64 z4, .int .i64 z5, .int .i64 z6] := by rw [hze]; rfl
      have hsel : M.sel (ans.set row ((k : Int) - 1)) T = M.agreeing (M.sel ans T) row ((k : Int) - 1) := M.sel_set HL.out hr6 HO.out (by omega)
      obtain ⟨kl, hkl⟩ := key101 (l := ans.set row ((k : Int) - 1)) (by simpa using HL.out) (wf_set hwf (Wf.of (by omega)))
      rw [hsz] at hkl
      have hX1 := hY1
      rw [hze] at hX1
      obtain ⟨x0, x1, x2, x3, x4, x5, x6⟩ := cells7 (v0 := .int .i64 z0) (v1 := .int .i64 z1) (v2 := .int .i64 z2) (v3 := .int .i64 z3) (v4 := .int .i64 z4) (v5 := .int .i64 z5) (v6 := .int .i64 z6) hX1
      obtain ⟨p0, p1, p2⟩ := cells3 hA1
      have HY1 := hid hY1
      have HA1 := hid hA1
      have HKL := hid hkl
      have HSEL := hid hsel
      have HSZ := hid hsz
      have HP1 : Hid (M.maxes (fun s => M.q f x (M.agreeing (M.sel ans T) row s)) ((M.saids f).drop (k + 1)) (max a (M.q f x (M.agreeing (M.sel ans T) row ((k : Int) - 1)))) = M.worst f x (M.sel ans T) row) := hid (by rw [← HP.out, saids_drop HD.out hlt]; rfl)
      have hqb := M.q_bd hr1 x N (M.agreeing (M.sel ans T) row ((k : Int) - 1)) (by have := hlt0 ((k : Int) - 1); omega)
      obtain ⟨g, hM1, hMem⟩ := hR1
      have hwz : w.heap.size + 1 < W1.heap.size := heap_lt hY1
      clear hW1 hY1 hA1 hkl hsel hsz hze hX1 q0 q1 q2 hyr hzr k0 k1 k2 k3 k4 k5 k6
      cases hg : g (.agg #[.int .i64 z0, .int .i64 z1, .int .i64 z2, .int .i64 z3, .int .i64 z4, .int .i64 z5, .int .i64 z6]) with
      | some v =>
        have hv := hMem.at_ (ans := ans.set row ((k : Int) - 1)) (v := v) (by rw [HSZ.out]; exact hg)
        rw [HSEL.out] at hv
        have HG := hid hg
        clear hg
        subst hv
        generalize hQ : M.q f x (M.agreeing (M.sel ans T) row ((k : Int) - 1)) = qq at *
        go_wp2_with (at_lookup; refine MapIs.lk hM1 law101 Try.underlying114 (fun w => Try.zeroValue3 w) HKL.out rfl _ _ rfl rfl rfl ?_; rw [HG.out]; simp only [Option.getD_some, Option.isSome_some])
        refine ⟨⟨k + 1, max a qq, ans.set row ((k : Int) - 1), by rw [show ((k + 1 : Nat) : Int) - 1 = k from by omega], by omega, by (congr 1; split <;> omega), by omega, by omega, hB1, ⟨g, hM1, hMem⟩, HA1, HY1, by simpa using HL.out, hid (fun s => by rw [List.set_set]), HP1⟩, by simp [intOf]; omega⟩
      | none =>
        have HG := hid hg
        clear hg
        have hag : ∀ W, Ev W1 W → Calls Try.prog 127 #[.slice B m d, .int .i64 row, .int .i64 ((k : Int) - 1)] W fun e w' => (∃ A c, e = .returned (.slice A (M.agreeing (M.sel ans T) row ((k : Int) - 1)).length c) ∧ Sl scs 7 w' w'.heap.size A (M.agreeing (M.sel ans T) row ((k : Int) - 1)).length c (M.agreeing (M.sel ans T) row ((k : Int) - 1))) ∧ Ev W w' := by
          intro W hE
          obtain ⟨g0, hm0, _⟩ := hrem
          have hm : Mo mb w W := hB1.trans (Mo.ev hE)
          exact agreeing_c B m d (M.sel ans T) (fun t ht => hT7 t (List.mem_filter.1 ht).1) row ((k : Int) - 1) hr6 W (hs.mo hm0 hm (Nat.le_refl _) hm.size)
        have hqs : ∀ W A' c', Ev W1 W → Sl scs 7 W W.heap.size A' (M.agreeing (M.sel ans T) row ((k : Int) - 1)).length c' (M.agreeing (M.sel ans T) row ((k : Int) - 1)) → Calls Try.prog 126 #[.agg #[.pointer (some ⟨p, 0, none⟩), .int .i64 x, .map (some mb)], .agg #[.int .i64 z0, .int .i64 z1, .int .i64 z2, .int .i64 z3, .int .i64 z4, .int .i64 z5, .int .i64 z6], .slice A' (M.agreeing (M.sel ans T) row ((k : Int) - 1)).length c'] W fun e w' => e = .returned (.int .i64 (M.q f x (M.agreeing (M.sel ans T) row ((k : Int) - 1)))) ∧ Rem f x T mb w' ∧ Mo mb W w' := by
          intro W A' c' hE hsl
          obtain ⟨g0, hm0, _⟩ := hrem
          have hm : Mo mb w W := hB1.trans (Mo.ev hE)
          have := hq (ans.set row ((k : Int) - 1)) A' _ c' W (by rw [HSEL.out]; have := hlt0 ((k : Int) - 1); omega) (by simpa using HL.out) (wf_set hwf (Wf.of (by omega))) (hw.mo hm0 hm) (Rem.ev ⟨g, hM1, hMem⟩ hE) (by rw [HSEL.out]; exact hsl)
          rw [HSEL.out, HSZ.out] at this
          exact this
        have HAG := hid hag
        have HQS := hid hqs
        clear hag hqs
        generalize hQ : M.q f x (M.agreeing (M.sel ans T) row ((k : Int) - 1)) = qq at *
        have HQ := hid hQ
        clear hQ
        have HSE : Hid (∀ w', Mo mb W1 w' → Mo mb W1 w' ∧ (∀ o, w'.cell? ⟨w.heap.size, o, none⟩ = W1.cell? ⟨w.heap.size, o, none⟩) ∧ (∀ o, w'.cell? ⟨w.heap.size + 1, o, none⟩ = W1.cell? ⟨w.heap.size + 1, o, none⟩)) := hid (fun w' h => ⟨h, fun o => h.cells.1 _ o (by omega) (by omega), fun o => h.cells.1 _ o (by omega) (by omega)⟩)
        go_wp2_with (at_lookup; refine MapIs.lk hM1 law101 Try.underlying114 (fun w => Try.zeroValue3 w) HKL.out rfl _ _ rfl rfl rfl ?_; rw [HG.out]; simp only [Option.getD_none, Option.isSome_none])
        go_region_held3 (fun w' => Mo mb W1 w' ∧ (∀ o, w'.cell? ⟨w.heap.size, o, none⟩ = W1.cell? ⟨w.heap.size, o, none⟩) ∧ (∀ o, w'.cell? ⟨w.heap.size + 1, o, none⟩ = W1.cell? ⟨w.heap.size + 1, o, none⟩)) (exact HSE.out _ (by repeat (first | (with_reducible assumption) | with_reducible exact Mo.refl _ W1 | with_reducible refine Mo.drew ?_ | with_reducible refine Mo.alloc ?_ _))) (first | (go_at_call 127; with_reducible refine (HAG.out _ (by first | exact Ev.refl _ | exact Ev.drew (Ev.refl _))).mono ?_; rintro e w2 ⟨⟨A', c', rfl, hsl⟩, hb2⟩; have hc2 : Ev W1 w2 := (by first | exact hb2 | exact Ev.trans (Ev.drew (Ev.refl _)) hb2); have hm2 : Mo mb W1 w2 := Mo.ev hc2; have HSL := hid hsl; clear hsl) | (go_at_call 126; (with_reducible refine (HQS.out _ _ _ (by first | exact hc2 | exact Ev.drew hc2) (by first | exact HSL.out | exact HSL.out.ev (Ev.drew (Ev.refl _)))).mono ?_); rintro e w3 ⟨rfl, ⟨g3, hM3, hMem3⟩, hm3'⟩; have hm3 : Mo mb W1 w3 := (by first | exact hm2.trans hm3' | exact Mo.trans (Mo.drew hm2) hm3')))
        go_wp2_with (at_mapUpdate; refine MapIs.up hM3 law101 Try.underlying114 HKL.out rfl _ _ _ rfl rfl rfl rfl ?_; intro w5 hM5 hg5)
        have hm5 : Mo mb W1 w5 := hm3.trans hg5
        have hput := hMem3.put (ans.set row ((k : Int) - 1))
        rw [HSEL.out, HQ.out, HSZ.out] at hput
        refine ⟨⟨k + 1, max a qq, ans.set row ((k : Int) - 1), by rw [show ((k + 1 : Nat) : Int) - 1 = k from by omega], by omega, by (congr 1; split <;> omega), by omega, by omega, hB1.trans hm5, ⟨_, hM5, hput⟩, hm5.heap HA1.out (by omega), hm5.heap HY1.out (by omega), by simpa using HL.out, hid (fun s => by rw [List.set_set]), HP1⟩, by simp [intOf]; omega⟩
    · have hk1 : k = D + 1 := by omega
      subst hk1
      have hlt1 : ¬ ((((D + 1 : Nat) : Int) - 1) < f.wds) := by have := HD.out; omega
      have hp := HP.out
      rw [saids_end HD.out] at hp
      simp only [M.maxes] at hp
      have HPP := hid hp
      clear hp
      go_wp2
      go_ret
      exact ⟨ret_int HPP.out, hR, hB⟩

end Go.Proofs.Ytcecmphdmpeibaa

namespace Go.Proofs.Ytcecmphdmpeibaa
open Go.RowKit

set_option maxRecDepth 100000 in
set_option maxHeartbeats 2000000 in
theorem costs_c {f : M.Fl} {x : Int} {T : List (List Int)} {fs : List (List Bool)} {p mb : Nat} {A A1 A2 : Option Addr} {n c n1 c1 n2 c2 N : Nat} (hq : QC f x T fs p mb A A1 A2 n c n1 c1 n2 c2 N) (hT7 : ∀ t ∈ T, t.length = 7) (hN : N ≤ 16384)
    (ans : List Int) (B : Option Addr) (m d : Nat) (w : World) (x0 : List Int) (xs : List (List Int)) (hne : M.sel ans T = x0 :: xs) (hle : (M.sel ans T).length ≤ N + 1) (hl : ans.length = 7) (hwf : ∀ y ∈ ans, Wf y)
    (hw : Wk w p f T fs A A1 A2 n c n1 c1 n2 c2) (hrem : Rem f x T mb w) (hs : Sl scs 7 w w.heap.size B m d (M.sel ans T)) :
    Calls Try.prog 87 #[askv p x (.map (some mb)), sv ans, .slice B m d] w fun e w' => (∃ D d, e = .returned (.slice D (M.costs f x (M.sel ans T)).length d) ∧ Sl ics 1 w' w'.heap.size D (M.costs f x (M.sel ans T)).length d (M.costs f x (M.sel ans T))) ∧ Rem f x T mb w' ∧ Mo mb w w' := by
  have hr1 := hw.r1
  have hr7 := hw.r7
  obtain ⟨rs, hrs⟩ := Int.eq_ofNat_of_zero_le (show 0 ≤ f.rows by omega)
  have hrs7 : rs ≤ 7 := by omega
  have hmbl : mb < w.heap.size := by obtain ⟨g, hm, _⟩ := hrem; exact hm.lt
  have hpl := heap_lt hw.blk
  have hpm : p ≠ mb := by
    obtain ⟨g, ⟨es, ck, hh, _⟩, _⟩ := hrem
    rintro rfl
    rw [hw.blk] at hh; cases hh
  have hwst := fun row W hr6 hns h1 h2 h3 => worst_c hq hT7 hN ans row B m d W hr6 hns hle hl hwf h1 h2 h3
  have hlen : (M.costs f x (M.sel ans T)).length = rs := by unfold M.costs; rw [hrs]; simp
  have hcs : ∀ k, k < rs → (M.costs f x (M.sel ans T))[k]? = some (M.cost f x (M.sel ans T) k) := by
    intro k hk
    unfold M.costs
    rw [hrs, List.getElem?_map, Int.toNat_natCast, List.getElem?_range hk]; rfl
  have hub : ∀ k, M.same k (M.sel ans T) = false → 0 ≤ M.worst f x (M.sel ans T) k ∧ M.worst f x (M.sel ans T) k ≤ 20000 := by
    intro k hk
    have := M.maxes_bd (fun s => M.q f x (M.agreeing (M.sel ans T) k s)) 20000 (M.saids f) 0 (fun s _ => by have h1 := M.agree_lt hk s; have := (M.q_bd hr1 x N _ (show (M.agreeing (M.sel ans T) k s).length ≤ N by omega)).2; omega) (by omega)
    exact this
  have h70 : ∀ t ∈ M.sel ans T, t.length = 7 := fun t ht => hT7 t (List.mem_filter.1 ht).1
  have hall : ∀ (k : Nat) (pr pt : Nat) (W : World), k ≤ 6 → Ev w W ∨ Mo mb w W → W.heap[pr]? = some (.cells #[.int .i64 k] 3 (0, 0)) → W.heap[pt]? = some (.cells #[.slice B m d] 124 (0, 0)) →
      Calls Try.prog 113 #[.slice B m d, .func (.func 115) #[] #[.pointer (some ⟨pr, 0, none⟩), .pointer (some ⟨pt, 0, none⟩)]] W fun e w' => e = .returned (.bool (M.same k (M.sel ans T))) ∧ Ev W w' := by
    intro k pr pt W hk6 hE hp1 hp2
    have hE' : Mo mb w W := hE.elim Mo.ev id
    obtain ⟨g, hm, _⟩ := hrem
    have hsW := hs.mo hm hE' (Nat.le_refl _) hE'.size
    refine allS_c B m d 115 [.pointer (some ⟨pr, 0, none⟩), .pointer (some ⟨pt, 0, none⟩)] (fun t => t.getD k 0 == ((M.sel ans T).headD []).getD k 0) (M.sel ans T) h70 W hsW (fun args w => Try.call115 args w) ?_
    intro t W2 ht hE2
    rw [hne] at hsW h70 ht ⊢
    exact costs1_c k hk6 pr pt t x0 xs (h70 t ht) h70 B m d W2 (hE2.heap hp1) (hE2.heap hp2) (hsW.ev hE2)
  obtain ⟨a0, a1, a2, a3, a4, a5, a6, he⟩ := list7 hl
  have hsv : sv ans = .agg #[.int .i64 a0, .int .i64 a1, .int .i64 a2, .int .i64 a3, .int .i64 a4, .int .i64 a5, .int .i64 a6] := by rw [he]; rfl
  rw [hsv] at hwst ⊢
  unfold askv at hwst ⊢
  have hwk0 := hw.blk
  unfold wcells at hwk0
  rw [hrs] at hwk0
  have HWS := hid hwst
  have HW := hid hw
  have HS := hid hs
  have HR := hid hrem
  have HLEN := hid hlen
  have HCS := hid hcs
  have HUB := hid hub
  have HALL := hid hall
  have HK0 := hid hwk0
  have hmk := fun wx => make27 rs (by omega) wx
  clear he hsv hwst hlen hcs hub hall hwk0 hw hs hrem hwf hne hrs h70
  go_enter Try.func87, Try.ntmps87
  go_upto_region 1 with fail
  generalize hW0 : World.alloc (World.alloc (World.alloc w _) _) _ = W0
  have hE0 : Ev w W0 := by rw [← hW0]; exact Ev.alloc (Ev.alloc (Ev.alloc (Ev.refl _) _) _) _
  have hal := alloc3 w (.cells #[.pointer (some ⟨p, 0, none⟩), .int .i64 x, .map (some mb)] 116) (.cells #[.int .i64 a0, .int .i64 a1, .int .i64 a2, .int .i64 a3, .int .i64 a4, .int .i64 a5, .int .i64 a6] 101) (.cells #[.slice B m d] 124)
  rw [hW0] at hal
  have Q0 := hid hal.1
  have Q1 := hid hal.2.1
  have Q2 := hid hal.2.2.1
  have hz0 : W0.heap.size = w.heap.size + 3 := hal.2.2.2
  clear hal hW0
  obtain ⟨q0, q1, q2⟩ := cells3 Q0.out
  obtain ⟨k0, k1, k2, k3, k4, k5, k6⟩ := cells7 (hE0.heap HK0.out)
  have HZ0 := hid hz0
  have hpl0 : p < W0.heap.size := by omega
  have hwl0 : w.heap.size < W0.heap.size := by omega
  clear hz0
  go_wp2
  clear hmk q0 q1 q2 k0 k1 k2 k3 k4 k5 k6
  generalize hW1 : World.alloc W0 _ = W1
  have hE1 : Ev W0 W1 := by rw [← hW1]; exact Ev.alloc (Ev.refl _) _
  have hS1 : W1.heap[W0.heap.size]? = some (.cells ((List.replicate rs (0 : Int)).map (Value.int .i64)).toArray 3 (0, 0)) := by rw [← hW1, ← replicate_map]; exact (alloc1 W0 _).1
  have HS1 := hid hS1
  have R0 := hid (hE1.heap Q0.out)
  have R1 := hid (hE1.heap Q1.out)
  have R2 := hid (hE1.heap Q2.out)
  clear hS1 hW1
  go_loopw [22] (fun i wr => ∃ (k : Nat) (ys : List Int), i = .int .i64 k ∧ k ≤ rs ∧ Mo mb w wr ∧ W1.heap.size ≤ wr.heap.size ∧ Rem f x T mb wr ∧ Hid (wr.heap[w.heap.size]? = some (.cells #[.pointer (some ⟨p, 0, none⟩), .int .i64 x, .map (some mb)] 116 (0, 0))) ∧ Hid (wr.heap[w.heap.size + 1]? = some (.cells #[.int .i64 a0, .int .i64 a1, .int .i64 a2, .int .i64 a3, .int .i64 a4, .int .i64 a5, .int .i64 a6] 101 (0, 0))) ∧ Hid (wr.heap[w.heap.size + 1 + 1]? = some (.cells #[.slice B m d] 124 (0, 0))) ∧ Hid (wr.heap[W0.heap.size]? = some (.cells (ys.map (Value.int .i64)).toArray 3 (0, 0))) ∧ ys.length = rs ∧ Hid (ys.take k = (M.costs f x (M.sel ans T)).take k)) (fun i _ => rs - (intOf i).toNat)
  case atStart => exact ⟨0, List.replicate rs 0, rfl, by omega, Mo.ev (hE0.trans hE1), Nat.le_refl _, HR.out.ev (hE0.trans hE1), R0, R1, R2, HS1, by simp, hid rfl⟩
  case round =>
    obtain ⟨k, ys, rfl, hk, hB, hzr, hRr, HA, HY, HH, HC, hyl, HT⟩ := hrel
    have hz0 := HZ0.out
    have hw3 : W0.heap.size < wr.heap.size := heap_lt HC.out
    have hw2 : w.heap.size + 1 + 1 < wr.heap.size := heap_lt HH.out
    have hw1 : w.heap.size + 1 < wr.heap.size := heap_lt HY.out
    have hw0 : w.heap.size < wr.heap.size := heap_lt HA.out
    by_cases hlt : k < rs
    · have hyk : wr.cell? ⟨W0.heap.size, k, none⟩ = some (.int .i64 (ys.getD k 0)) := by
        rw [cell_in HC.out k, List.getElem?_toArray, List.getElem?_map, List.getD_eq_getElem?_getD, List.getElem?_eq_getElem (by omega)]; rfl
      generalize ys.getD k 0 = yk at hyk
      have hzk := frozen_in HC.out k
      have hkr : (k : Int) < rs := by omega
      have HYL := hid hyl
      have HZR := hid hz0
      clear hyl hz0
      go_upto_region 6 with fail
      generalize hW2 : World.alloc (World.setCell wr _ _) _ = W2
      have hP2 : W2.heap[wr.heap.size]? = some (.cells #[.int .i64 k] 3 (0, 0)) := by rw [← hW2]; exact heap_at _ _ (by simp [World.setCell])
      have hA2 : W2.heap[w.heap.size]? = some (.cells #[.pointer (some ⟨p, 0, none⟩), .int .i64 x, .map (some mb)] 116 (0, 0)) := by rw [← hW2]; exact heap_old _ (set_heap HA.out (by omega))
      have hY2 : W2.heap[w.heap.size + 1]? = some (.cells #[.int .i64 a0, .int .i64 a1, .int .i64 a2, .int .i64 a3, .int .i64 a4, .int .i64 a5, .int .i64 a6] 101 (0, 0)) := by rw [← hW2]; exact heap_old _ (set_heap HY.out (by have := HZR.out; omega))
      have hH2 : W2.heap[w.heap.size + 1 + 1]? = some (.cells #[.slice B m d] 124 (0, 0)) := by rw [← hW2]; exact heap_old _ (set_heap HH.out (by have := HZR.out; omega))
      have hC2 : W2.heap[W0.heap.size]? = some (.cells ((ys.set k 8).map (Value.int .i64)).toArray 3 (0, 0)) := by
        rw [← hW2]; refine heap_old _ ?_; rw [set_heap_same HC.out]; simp [List.map_set]
      have hB2 : Mo mb w W2 := by rw [← hW2]; exact (hB.setCell (by simp; omega) _).alloc _
      have hR2 : Rem f x T mb W2 := by rw [← hW2]; exact (hRr.set (by simp; omega) _).ev (Ev.alloc (Ev.refl _) _)
      have hz2 : wr.heap.size < W2.heap.size := heap_lt hP2
      have hcall := HALL.out k wr.heap.size (w.heap.size + 1 + 1) W2 (by omega) (.inr hB2) hP2 hH2
      have hh2 := cell_in hH2 0
      simp only [List.getElem?_toArray, List.getElem?_cons_zero] at hh2
      have hcost := HCS.out k hlt
      have htk : ∀ v, M.cost f x (M.sel ans T) k = v → (ys.set k v).take (k + 1) = (M.costs f x (M.sel ans T)).take (k + 1) := by
        intro v hv
        rw [List.take_add_one, List.take_add_one, List.take_set_of_le (Nat.le_refl _), HT.out, List.getElem?_set_self (by rw [HYL.out]; exact hlt), hcost, hv]
      have HCALL := hid hcall
      have HTK := hid htk
      have HP2 := hid hP2
      have HA2 := hid hA2
      have HY2 := hid hY2
      have HH2 := hid hH2
      have HC2 := hid hC2
      have hlc : M.cost f x (M.sel ans T) k = if M.same k (M.sel ans T) then 8 else 1 + M.worst f x (M.sel ans T) k := rfl
      have HLC := hid hlc
      clear hW2 hcall htk hP2 hA2 hY2 hH2 hC2 hcost hyk hzk hlc
      cases hsm : M.same k (M.sel ans T) with
      | true =>
        rw [hsm] at HCALL HLC
        clear hsm
        go_wp2_with (go_at_call 113; ((with_reducible refine HCALL.out.mono ?_); rintro e w3 ⟨rfl, hb3⟩))
        have hm3 : Mo mb W2 w3 := Mo.ev hb3
        refine ⟨⟨k + 1, ys.set k 8, by go_num, by omega, hB2.trans hm3, by have := hb3.size; omega, hR2.ev hb3, hb3.heap HA2.out, hb3.heap HY2.out, hb3.heap HH2.out, hb3.heap HC2.out, by simpa using HYL.out, HTK.out 8 (by rw [HLC.out]; rfl)⟩, by simp [intOf]; omega⟩
      | false =>
        have hub := HUB.out k hsm
        have hws : ∀ W, Ev W2 W → Calls Try.prog 116 #[.agg #[.pointer (some ⟨p, 0, none⟩), .int .i64 x, .map (some mb)], .agg #[.int .i64 a0, .int .i64 a1, .int .i64 a2, .int .i64 a3, .int .i64 a4, .int .i64 a5, .int .i64 a6], .int .i64 k, .slice B m d] W fun e w' => e = .returned (.int .i64 (M.worst f x (M.sel ans T) k)) ∧ Rem f x T mb w' ∧ Mo mb W w' := by
          intro W hE
          obtain ⟨g0, hm0, _⟩ := HR.out
          have hm : Mo mb w W := hB2.trans (Mo.ev hE)
          exact HWS.out k W (by omega) hsm (HW.out.mo hm0 hm) (hR2.ev hE) (HS.out.mo hm0 hm (Nat.le_refl _) hm.size)
        have HWS2 := hid hws
        clear hws
        rw [hsm] at HCALL HLC
        clear hsm
        generalize M.worst f x (M.sel ans T) k = uu at *
        have hwrap : IntKind.i64.wrap (1 + uu) = 1 + uu := IntWalk.i64_in _ (by omega)
        go_wp2_with (go_at_call 113; ((with_reducible refine HCALL.out.mono ?_); rintro e w3 ⟨rfl, hb3⟩))
        have hm3 : Mo mb W2 w3 := Mo.ev hb3
        obtain ⟨q0, q1, q2⟩ := cells3 (hb3.heap HA2.out)
        obtain ⟨y0, y1, y2, y3, y4, y5, y6⟩ := cells7 (hb3.heap HY2.out)
        have q3 := cell_in (hb3.heap HH2.out) 0
        have q4 := cell_in (hb3.heap HP2.out) 0
        simp only [List.getElem?_toArray, List.getElem?_cons_zero] at q3 q4
        have hz3 := hb3.size
        have hzr := HZR.out
        have HSE : Hid (∀ w', Mo mb w3 w' → (∀ o, w'.cell? ⟨w.heap.size, o, none⟩ = w3.cell? ⟨w.heap.size, o, none⟩) ∧ (∀ o, w'.cell? ⟨w.heap.size + 1, o, none⟩ = w3.cell? ⟨w.heap.size + 1, o, none⟩) ∧ (∀ o, w'.cell? ⟨w.heap.size + 1 + 1, o, none⟩ = w3.cell? ⟨w.heap.size + 1 + 1, o, none⟩) ∧ (∀ o, w'.cell? ⟨wr.heap.size, o, none⟩ = w3.cell? ⟨wr.heap.size, o, none⟩)) := hid (fun w' h => ⟨fun o => h.cells.1 _ o (by omega) (by omega), fun o => h.cells.1 _ o (by omega) (by omega), fun o => h.cells.1 _ o (by omega) (by omega), fun o => h.cells.1 _ o (by omega) (by omega)⟩)
        have HST : Hid (∀ w' v, Mo mb w3 w' → (∀ o, (w'.setCell ⟨W0.heap.size, k, none⟩ v).cell? ⟨w.heap.size, o, none⟩ = w3.cell? ⟨w.heap.size, o, none⟩) ∧ (∀ o, (w'.setCell ⟨W0.heap.size, k, none⟩ v).cell? ⟨w.heap.size + 1, o, none⟩ = w3.cell? ⟨w.heap.size + 1, o, none⟩) ∧ (∀ o, (w'.setCell ⟨W0.heap.size, k, none⟩ v).cell? ⟨w.heap.size + 1 + 1, o, none⟩ = w3.cell? ⟨w.heap.size + 1 + 1, o, none⟩) ∧ (∀ o, (w'.setCell ⟨W0.heap.size, k, none⟩ v).cell? ⟨wr.heap.size, o, none⟩ = w3.cell? ⟨wr.heap.size, o, none⟩)) := hid (fun w' v h => ⟨fun o => (World.cell?_of_block (w := w') (Below.heap_setCell _ _ _ _ (show w.heap.size ≠ W0.heap.size by omega))).trans (h.cells.1 _ o (by omega) (by omega)), fun o => (World.cell?_of_block (w := w') (Below.heap_setCell _ _ _ _ (show w.heap.size + 1 ≠ W0.heap.size by omega))).trans (h.cells.1 _ o (by omega) (by omega)), fun o => (World.cell?_of_block (w := w') (Below.heap_setCell _ _ _ _ (show w.heap.size + 1 + 1 ≠ W0.heap.size by omega))).trans (h.cells.1 _ o (by omega) (by omega)), fun o => (World.cell?_of_block (w := w') (Below.heap_setCell _ _ _ _ (show wr.heap.size ≠ W0.heap.size by omega))).trans (h.cells.1 _ o (by omega) (by omega))⟩)
        have HCC := hid (hb3.heap HC2.out)
        clear hzr
        go_region_held3 (fun w' => (∀ o, w'.cell? ⟨w.heap.size, o, none⟩ = w3.cell? ⟨w.heap.size, o, none⟩) ∧ (∀ o, w'.cell? ⟨w.heap.size + 1, o, none⟩ = w3.cell? ⟨w.heap.size + 1, o, none⟩) ∧ (∀ o, w'.cell? ⟨w.heap.size + 1 + 1, o, none⟩ = w3.cell? ⟨w.heap.size + 1 + 1, o, none⟩) ∧ (∀ o, w'.cell? ⟨wr.heap.size, o, none⟩ = w3.cell? ⟨wr.heap.size, o, none⟩)) (first | (exact HST.out _ _ hm4) | (exact HSE.out _ (by repeat (first | (with_reducible assumption) | with_reducible exact Mo.refl _ w3 | with_reducible refine Mo.drew ?_ | with_reducible refine Mo.alloc ?_ _)))) (first | (go_at_call 116; ((with_reducible refine (HWS2.out _ (by first | exact hb3 | exact Ev.drew hb3)).mono ?_); rintro e w4 ⟨rfl, hR4, hm4'⟩; have hm4 : Mo mb w3 w4 := (by first | exact hm4' | exact Mo.trans (Mo.drew (Mo.refl _ _)) hm4'); have hC4 := hm4.heap HCC.out (by omega); have g1 := frozen_in hC4 k; have g2 : w4.cell? ⟨W0.heap.size, k, none⟩ = some (.int .i64 8) := (by rw [cell_in hC4 k, List.getElem?_toArray, List.getElem?_map, List.getElem?_set_self (by rw [HYL.out]; exact hlt)]; rfl); have HC4 := hid hC4; clear hC4)))
        go_wp2
        have hC5 : (w4.setCell ⟨W0.heap.size, k, none⟩ (.int .i64 (1 + uu))).heap[W0.heap.size]? = some (.cells ((ys.set k (1 + uu)).map (Value.int .i64)).toArray 3 (0, 0)) := by
          rw [set_heap_same HC4.out]; simp [List.map_set]
        have hm5 : Mo mb W2 w4 := hm3.trans hm4
        refine ⟨⟨k + 1, ys.set k (1 + uu), by go_num, by omega, (hB2.trans hm5).setCell (by simp; omega) _, by have := hm5.size; simp [World.setCell]; omega, hR4.set (by simp; omega) _, set_heap (hm5.heap HA2.out (by omega)) (by omega), set_heap (hm5.heap HY2.out (by omega)) (by have := HZR.out; omega), set_heap (hm5.heap HH2.out (by omega)) (by have := HZR.out; omega), hC5, by simpa using HYL.out, HTK.out (1 + uu) (by rw [HLC.out]; rfl)⟩, by simp [intOf]; omega⟩
    · have hk1 : k = rs := by omega
      subst hk1
      have hT := HT.out
      rw [List.take_of_length_le (by omega), List.take_of_length_le (by have := HLEN.out; omega)] at hT
      have HT2 := hid hT
      clear hT
      go_wp2
      go_ret
      refine ⟨⟨some ⟨W0.heap.size, 0, none⟩, k, by rw [HLEN.out]; rfl, ?_⟩, hRr, hB⟩
      rw [← HT2.out]
      exact ⟨rfl, by omega, by omega, fun _ => ⟨W0.heap.size, 0, rfl, hw3, fun j y hj i v hi => by
        obtain rfl : i = 0 := by have : i < (ics y).length := (List.getElem?_eq_some_iff.1 hi).1; simpa [ics] using this
        obtain rfl : v = .int .i64 y := by simpa [ics] using hi.symm
        rw [show 0 + j * 1 + 0 = j from by omega, cell_in HC.out, List.getElem?_toArray, List.getElem?_map, hj]; rfl⟩⟩

end Go.Proofs.Ytcecmphdmpeibaa

namespace Go.Proofs.Ytcecmphdmpeibaa
open Go.RowKit

set_option maxRecDepth 100000 in
set_option maxHeartbeats 2000000 in
theorem quest_c {f : M.Fl} {x : Int} {T : List (List Int)} {fs : List (List Bool)} {p mb : Nat} {A A1 A2 : Option Addr} {n c n1 c1 n2 c2 : Nat} (hT7 : ∀ t ∈ T, t.length = 7) (N : Nat) (hN : N ≤ 16384) (hq : ∀ N', N = N' + 1 → QC f x T fs p mb A A1 A2 n c n1 c1 n2 c2 N') : QC f x T fs p mb A A1 A2 n c n1 c1 n2 c2 N := by
  intro ans B m d w hle hl hwf hw hrem hs
  have hr1 := hw.r1
  have h70 : ∀ t ∈ M.sel ans T, t.length = 7 := fun t ht => hT7 t (List.mem_filter.1 ht).1
  have hkn := fun W (hE : Ev w W) => known_c p x mb (M.sel ans T) h70 B m d f T fs A A1 A2 n c n1 c1 n2 c2 W (hw.ev hE) (hs.ev hE)
  obtain ⟨a0, a1, a2, a3, a4, a5, a6, he⟩ := list7 hl
  have hsv : sv ans = .agg #[.int .i64 a0, .int .i64 a1, .int .i64 a2, .int .i64 a3, .int .i64 a4, .int .i64 a5, .int .i64 a6] := by rw [he]; rfl
  cases hk : M.known f x (M.sel ans T) with
  | true =>
    have hqz : M.q f x (M.sel ans T) = 0 := by rw [M.q_eq, hk]; rfl
    rw [hk] at hkn
    rw [hqz, hsv]
    unfold askv at hkn ⊢
    have HKN := hid hkn
    have HR := hid hrem
    clear hkn hk hqz hsv he hl hs hw hrem
    go_enter Try.func126, Try.ntmps126
    go_upto_region 1 with fail
    generalize hW0 : World.alloc (World.alloc w _) _ = W0
    have hE0 : Ev w W0 := by rw [← hW0]; exact Ev.alloc (Ev.alloc (Ev.refl _) _) _
    have hal := alloc2 w (.cells #[.pointer (some ⟨p, 0, none⟩), .int .i64 x, .map (some mb)] 116) (.cells #[.int .i64 a0, .int .i64 a1, .int .i64 a2, .int .i64 a3, .int .i64 a4, .int .i64 a5, .int .i64 a6] 101)
    rw [hW0] at hal
    obtain ⟨q0, q1, q2⟩ := cells3 hal.1
    clear hal hW0
    go_wp2_with (go_at_call 86; ((with_reducible refine (HKN.out _ hE0).mono ?_); rintro e w1 ⟨rfl, hb1⟩))
    go_ret
    exact ⟨rfl, HR.out.ev (hE0.trans hb1), Mo.ev (hE0.trans hb1)⟩
  | false =>
    cases hts : M.sel ans T with
    | nil => rw [hts] at hk; cases hk
    | cons x0 xs =>
    obtain ⟨N', rfl⟩ : ∃ N', N = N' + 1 := ⟨N - 1, by have : (M.sel ans T).length ≥ 1 := by rw [hts]; simp
                                                      omega⟩
    have hcst := fun W (h1 : Wk W p f T fs A A1 A2 n c n1 c1 n2 c2) (h2 : Rem f x T mb W) (h3 : Sl scs 7 W W.heap.size B m d (M.sel ans T)) => costs_c (hq N' rfl) hT7 (by omega) ans B m d W x0 xs hts hle hl hwf h1 h2 h3
    rw [← hts]
    have hqz : M.q f x (M.sel ans T) = M.leastOf (M.costs f x (M.sel ans T)) := by rw [M.q_eq, hk]; rfl
    have hcl : (M.costs f x (M.sel ans T)).length = f.rows.toNat := by unfold M.costs; simp
    rw [hk] at hkn
    rw [hqz, hsv]
    rw [hsv] at hcst
    generalize M.costs f x (M.sel ans T) = cs at *
    cases cs with
    | nil => simp at hcl; omega
    | cons y r =>
    unfold askv at hkn hcst ⊢
    have HKN := hid hkn
    have HCST := hid hcst
    have HR := hid hrem
    have HW := hid hw
    have HS := hid hs
    clear hkn hcst hk hqz hsv he hl hs hw hrem hts hcl
    go_enter Try.func126, Try.ntmps126
    go_upto_region 1 with fail
    generalize hW0 : World.alloc (World.alloc w _) _ = W0
    have hE0 : Ev w W0 := by rw [← hW0]; exact Ev.alloc (Ev.alloc (Ev.refl _) _) _
    have hal := alloc2 w (.cells #[.pointer (some ⟨p, 0, none⟩), .int .i64 x, .map (some mb)] 116) (.cells #[.int .i64 a0, .int .i64 a1, .int .i64 a2, .int .i64 a3, .int .i64 a4, .int .i64 a5, .int .i64 a6] 101)
    rw [hW0] at hal
    have Q0 := hid hal.1
    have Q1 := hid hal.2.1
    obtain ⟨q0, q1, q2⟩ := cells3 hal.1
    clear hal hW0
    go_wp2_with (first | (go_at_call 86; ((with_reducible refine (HKN.out _ hE0).mono ?_); rintro e w1 ⟨rfl, hb1⟩; clear q0 q1 q2; obtain ⟨q0, q1, q2⟩ := cells3 (hb1.heap Q0.out); obtain ⟨g0, g1, g2, g3, g4, g5, g6⟩ := cells7 (hb1.heap Q1.out))) | (go_at_call 87; ((with_reducible refine (HCST.out _ (HW.out.ev (hE0.trans hb1)) (HR.out.ev (hE0.trans hb1)) (HS.out.ev (hE0.trans hb1))).mono ?_); rintro e w2 ⟨⟨D, d2, rfl, hsl⟩, hR2, hm2⟩; clear q0 q1 q2 g0 g1 g2 g3 g4 g5 g6)))
    have hne : 0 < (y :: r).length := by simp
    obtain ⟨b, off, y', rfl, hbD, hy, hyd, hyc⟩ := hsl.int (Below.refl _ _) hne
    obtain rfl : y = y' := by simpa using hy
    have hcap := hsl.cap
    have hsm := hsl.small
    rw [List.length_cons] at hsl hcap hsm
    obtain ⟨T', hts, htsa, hst⟩ := tail1 hsl
    have hl : ∀ W, Ev w2 W → Calls Try.prog 88 #[.int .i64 y, .slice T' r.length (d2 - 1)] W fun e w' => e = .returned (.int .i64 (M.least y r)) ∧ Ev W w' := fun W hE => least_c y _ _ _ r W (hst.ev hE)
    have HL := hid hl
    have HSE : Hid (∀ w', Ev w2 w' → Ev w2 w' ∧ (∀ o, w'.cell? ⟨b, o, none⟩ = w2.cell? ⟨b, o, none⟩)) := hid (fun w' h => ⟨h, fun o => h.cells.1 _ o hbD⟩)
    have HEM := hid (Mo.trans (Mo.ev (mb := mb) (hE0.trans hb1)) hm2)
    clear hl hst hsl hy hyd
    simp only [Nat.add_zero] at hyc
    trace_state
    go_region_held3 (fun w' => Ev w2 w' ∧ (∀ o, w'.cell? ⟨b, o, none⟩ = w2.cell? ⟨b, o, none⟩)) (exact HSE.out _ (by repeat (first | with_reducible exact Ev.refl w2 | (with_reducible assumption) | with_reducible refine Ev.drew ?_ | with_reducible refine Ev.alloc ?_ _))) (first | (go_at_call 88; ((with_reducible refine (HL.out _ (by first | exact Ev.refl _ | exact Ev.drew (Ev.refl _))).mono ?_); rintro e w3 ⟨rfl, hb3⟩; have hc3 : Ev w2 w3 := (by first | exact hb3 | exact Ev.trans (Ev.drew (Ev.refl _)) hb3))))
    go_wp2
    go_ret
    exact ⟨rfl, hR2.ev hc3, HEM.out.trans (Mo.ev hc3)⟩

theorem quests {f : M.Fl} {x : Int} {T : List (List Int)} {fs : List (List Bool)} {p mb : Nat} {A A1 A2 : Option Addr} {n c n1 c1 n2 c2 : Nat} (hT7 : ∀ t ∈ T, t.length = 7) : ∀ (N : Nat), N ≤ 16384 → QC f x T fs p mb A A1 A2 n c n1 c1 n2 c2 N
  | 0, h => quest_c hT7 0 h (fun N' e => by omega)
  | N + 1, h => quest_c hT7 (N + 1) h (fun N' e => by obtain rfl : N = N' := by omega
                                                      exact quests hT7 N (by omega))

end Go.Proofs.Ytcecmphdmpeibaa

namespace Go.Proofs.Ytcecmphdmpeibaa
open Go.RowKit

theorem truths_few {f : M.Fl} (hg : Good f) : (M.truths f).length ≤ 16384 := by
  refine Nat.le_trans (List.length_filter_le _ _) ?_
  exact M.fill_max f _ _ (by have := hg.d3; have := hg.d1; omega) (by have := hg.r7; omega) []

/-- What Next returns. -/
def M.Next (f : M.Fl) (x : Int) : Int × Int :=
  if M.known f x (M.truths f) then (-1, 0) else (M.idx (M.leastOf (M.costs f x (M.truths f))) (M.costs f x (M.truths f)) 0, M.leastOf (M.costs f x (M.truths f)))

set_option maxRecDepth 100000 in
set_option maxHeartbeats 2000000 in
theorem Next_c (f : M.Fl) (x : Int) (A : Option Addr) (n c : Nat) (w : World) (hs : Sl tcs 5 w w.heap.size A n c f.ts) :
    Calls Try.prog 41 #[fv f (.slice A n c), .int .i64 x] w fun e w' =>
      (if M.begin f (M.hasWd f x) = 0 then e = .returned (.tuple #[.int .i64 (M.Next f x).1, .int .i64 (M.Next f x).2, .int .i64 0])
        else e = .returned (.tuple #[.int .i64 0, .int .i64 0, .int .i64 (M.begin f (M.hasWd f x))])) ∧ Ev w w' := by
  have hhr := fun W => hasWd_e f A n c x W
  have hbg := fun b W (hE : Ev w W) => begin_c f b A n c W (hs.ev hE)
  rw [fv_eq] at hhr hbg ⊢
  have HHR := hid hhr
  generalize hbb : M.hasWd f x = b at HHR
  have HBB := hid hbb
  clear hhr
  by_cases hb : M.begin f b = 0
  · simp only [if_pos hb]
    have hg := begin_good hb
    have hsome := begin_some hb
    have hbg2 : ∀ W, Ev w W → Calls Try.prog 75 #[.agg #[.int .i64 f.rows, .int .i64 f.wds, .int .i64 f.lf.lo, .int .i64 f.lf.hi, .slice A n c], .bool b] W fun e w' => (∃ p A1 A2 c1 c2, e = .returned (.tuple #[.pointer (some ⟨p, 0, none⟩), .int .i64 0]) ∧ Wk w' p f (M.truths f) (M.finds f) A A1 A2 n c (M.truths f).length c1 (M.finds f).length c2) ∧ Ev W w' := fun W hE => Calls.mono (hbg b W hE) (by
      rintro e w' ⟨⟨v, he, h1, _⟩, h3⟩
      obtain ⟨p, A1, A2, c1, c2, rfl, hwk⟩ := h1 hb
      rw [hb] at he
      exact ⟨⟨p, A1, A2, c1, c2, he, hwk⟩, h3⟩)
    have HBG := hid hbg2
    clear hbg hbg2 hbb hb
    go_enter Try.func41, Try.ntmps41
    go_wp2
    generalize hW0 : World.alloc w _ = W0
    have hE0 : Ev w W0 := by rw [← hW0]; exact Ev.alloc (Ev.refl _) _
    have hal := alloc1 w (.cells #[.int .i64 f.rows, .int .i64 f.wds, .int .i64 f.lf.lo, .int .i64 f.lf.hi, .slice A n c] 36)
    rw [hW0] at hal
    obtain ⟨g0, g1, g2, g3, g4⟩ := cells5 hal.1
    have hwl := heap_lt hal.1
    have HSE : Hid (∀ w', Ev W0 w' → Ev W0 w' ∧ (∀ b o, b < W0.heap.size → w'.cell? ⟨b, o, none⟩ = W0.cell? ⟨b, o, none⟩)) := hid (fun w' h => ⟨h, h.cells.1⟩)
    clear hal hW0
    go_region_held3 (fun w' => Ev W0 w' ∧ (∀ b o, b < W0.heap.size → w'.cell? ⟨b, o, none⟩ = W0.cell? ⟨b, o, none⟩)) (exact HSE.out _ (by repeat (first | with_reducible exact Ev.refl W0 | (with_reducible assumption) | with_reducible refine Ev.drew ?_))) (first | (go_at_call 81; with_reducible refine (HHR.out _).mono ?_; rintro e w1 ⟨rfl, hb1⟩; have hc1 : Ev W0 w1 := (by first | exact hb1 | exact Ev.trans (Ev.drew (Ev.refl _)) hb1)) | (go_at_call 75; with_reducible refine (HBG.out _ (hE0.trans (by first | exact hc1 | exact Ev.drew hc1))).mono ?_; rintro e w2 ⟨⟨p, A1, A2, c1, c2, rfl, hwk⟩, hb2⟩; have hc2 : Ev W0 w2 := (by first | exact hc1.trans hb2 | exact Ev.trans (Ev.drew hc1) hb2); have HWK := hid hwk; clear hwk))
    have hE2 := hE0.trans hc2
    have HA3 := fun W => ask_c p x W
    unfold askv at HA3
    have HAS := hid HA3
    clear HA3 g0 g1 g2 g3 g4
    go_upto_region 5 with (first | (go_at_call 82; ((with_reducible refine (HAS.out _).mono ?_); rintro e w3 ⟨⟨mb, rfl, hM3, hmb⟩, hb3⟩)))
    generalize hW4 : World.alloc w3 _ = W4
    have hE4 : Ev w3 W4 := by rw [← hW4]; exact Ev.alloc (Ev.refl _) _
    have hQ4 : W4.heap[w3.heap.size]? = some (.cells #[.pointer (some ⟨p, 0, none⟩), .int .i64 x, .map (some mb)] 116 (0, 0)) := by rw [← hW4]; exact heap_at _ _ rfl
    have hR4 : Rem f x (M.truths f) mb W4 := Rem.ev ⟨_, hM3, Memo.none _ _ _⟩ hE4
    have hW4k := HWK.out.ev (hb3.trans hE4)
    obtain ⟨q0, q1, q2⟩ := cells3 hQ4
    have hT7 := hW4k.t7
    obtain ⟨k0, k1, k2, k3, k4, k5, k6⟩ := cells7 hW4k.blk
    have hp4 := heap_lt hW4k.blk
    have ha4 := heap_lt hQ4
    have hkn := fun W (hE : Ev W4 W) => known_c p x mb (M.truths f) hT7 A1 (M.truths f).length c1 f (M.truths f) (M.finds f) A A1 A2 n c (M.truths f).length c1 (M.finds f).length c2 W (hW4k.ev hE) (hW4k.tru.ev hE)
    unfold askv at hkn
    have hmbw : w.heap.size ≤ mb := Nat.le_trans hE2.size hmb
    have HSE4 : Hid (∀ w', Ev W4 w' → Ev W4 w' ∧ (∀ o, w'.cell? ⟨w3.heap.size, o, none⟩ = W4.cell? ⟨w3.heap.size, o, none⟩) ∧ (∀ o, w'.cell? ⟨p, o, none⟩ = W4.cell? ⟨p, o, none⟩)) := hid (fun w' h => ⟨h, fun o => h.cells.1 _ o ha4, fun o => h.cells.1 _ o hp4⟩)
    have HE4 := hid ((hE2.trans hb3).trans hE4)
    have HQ4 := hid hQ4
    have HW4k := hid hW4k
    have HR4 := hid hR4
    clear hW4 hQ4 hM3 hW4k hR4
    cases hk : M.known f x (M.truths f) with
    | true =>
      have hnx : M.Next f x = (-1, 0) := by unfold M.Next; rw [hk]; rfl
      rw [hk] at hkn
      have HNX := hid hnx
      have HKN := hid hkn
      clear hkn hk hnx
      go_region_held3 (fun w' => Ev W4 w' ∧ (∀ o, w'.cell? ⟨w3.heap.size, o, none⟩ = W4.cell? ⟨w3.heap.size, o, none⟩) ∧ (∀ o, w'.cell? ⟨p, o, none⟩ = W4.cell? ⟨p, o, none⟩)) (exact HSE4.out _ (by repeat (first | with_reducible exact Ev.refl W4 | (with_reducible assumption) | with_reducible refine Ev.drew ?_))) (first | (go_at_call 86; ((with_reducible refine (HKN.out _ (by first | exact Ev.refl _ | exact Ev.drew (Ev.refl _))).mono ?_); rintro e w5 ⟨rfl, hb5⟩; have hc5 : Ev W4 w5 := (by first | exact hb5 | exact Ev.trans (Ev.drew (Ev.refl _)) hb5))))
      go_wp2
      go_ret3
      exact ⟨by rw [HNX.out]; rfl, HE4.out.trans hc5⟩
    | false =>
      cases hts : M.truths f with
      | nil => rw [hts] at hk; cases hk
      | cons x0 xs =>
      have hfew := truths_few hg
      have hq := quests (f := f) (x := x) (T := M.truths f) (fs := M.finds f) (p := p) (mb := mb) (A := A) (A1 := A1) (A2 := A2) (n := n) (c := c) (n1 := (M.truths f).length) (c1 := c1) (n2 := (M.finds f).length) (c2 := c2) hT7 ((M.truths f).length - 1) (by omega)
      have hbl : (M.sel M.blank (M.truths f)) = M.truths f := M.sel_blank _
      have hcst := fun W (h1 : Wk W p f (M.truths f) (M.finds f) A A1 A2 n c (M.truths f).length c1 (M.finds f).length c2) (h2 : Rem f x (M.truths f) mb W) (h3 : Sl scs 7 W W.heap.size A1 (M.truths f).length c1 (M.sel M.blank (M.truths f))) => costs_c hq hT7 (by omega) M.blank A1 (M.truths f).length c1 W x0 xs (by rw [hbl, hts]) (by rw [hbl]; omega) rfl (by intro y hy; simp [M.blank] at hy; subst hy; exact Wf.of (by omega)) h1 h2 h3
      rw [hbl] at hcst
      have hnx : M.Next f x = (M.idx (M.leastOf (M.costs f x (M.truths f))) (M.costs f x (M.truths f)) 0, M.leastOf (M.costs f x (M.truths f))) := by unfold M.Next; rw [hk]; rfl
      have hcl : (M.costs f x (M.truths f)).length = f.rows.toNat := by unfold M.costs; simp
      have hr1 := hg.r1
      rw [hk] at hkn
      generalize M.costs f x (M.truths f) = cs at *
      cases cs with
      | nil => simp at hcl; omega
      | cons y r =>
      have hsvb : sv M.blank = .agg #[.int .i64 (-2), .int .i64 (-2), .int .i64 (-2), .int .i64 (-2), .int .i64 (-2), .int .i64 (-2), .int .i64 (-2)] := rfl
      rw [hsvb] at hcst
      unfold askv at hcst
      have HKN := hid hkn
      have HCST := hid hcst
      have HNX := hid hnx
      clear hkn hcst hk hts hcl hnx hbl hsvb hq
      go_region_held3 (fun w' => Ev W4 w' ∧ (∀ o, w'.cell? ⟨w3.heap.size, o, none⟩ = W4.cell? ⟨w3.heap.size, o, none⟩) ∧ (∀ o, w'.cell? ⟨p, o, none⟩ = W4.cell? ⟨p, o, none⟩)) (exact HSE4.out _ (by repeat (first | with_reducible exact Ev.refl W4 | (with_reducible assumption) | with_reducible refine Ev.drew ?_))) (first | (go_at_call 86; ((with_reducible refine (HKN.out _ (by first | exact Ev.refl _ | exact Ev.drew (Ev.refl _))).mono ?_); rintro e w5 ⟨rfl, hb5⟩; have hc5 : Ev W4 w5 := (by first | exact hb5 | exact Ev.trans (Ev.drew (Ev.refl _)) hb5))))
      go_upto_region 7 with fail
      have hz5 := hc5.size
      have hp5 : p < w5.heap.size := by omega
      have ha5 : w3.heap.size < w5.heap.size := by omega
      have hpm : p ≠ mb := by
        obtain ⟨g, ⟨es, ck, hh, _⟩, _⟩ := HR4.out
        rintro rfl
        rw [HW4k.out.blk] at hh; cases hh
      have ham : w3.heap.size ≠ mb := by
        obtain ⟨g, ⟨es, ck, hh, _⟩, _⟩ := HR4.out
        intro e
        rw [← e, HQ4.out] at hh; cases hh
      have HSE5 : Hid (∀ w', Mo mb w5 w' → Mo mb w5 w' ∧ (∀ o, w'.cell? ⟨w3.heap.size, o, none⟩ = w5.cell? ⟨w3.heap.size, o, none⟩) ∧ (∀ o, w'.cell? ⟨p, o, none⟩ = w5.cell? ⟨p, o, none⟩)) := hid (fun w' h => ⟨h, fun o => h.cells.1 _ o ha5 ham, fun o => h.cells.1 _ o hp5 hpm⟩)
      go_region_held3 (fun w' => Mo mb w5 w' ∧ (∀ o, w'.cell? ⟨w3.heap.size, o, none⟩ = w5.cell? ⟨w3.heap.size, o, none⟩) ∧ (∀ o, w'.cell? ⟨p, o, none⟩ = w5.cell? ⟨p, o, none⟩)) (exact HSE5.out _ (by repeat (first | with_reducible exact Mo.refl _ w5 | (with_reducible assumption) | with_reducible refine Mo.drew ?_))) (first | (go_at_call 70; ((with_reducible refine (blank_c _).mono ?_); rintro e w6 ⟨rfl, hb6⟩; have hc6 : Ev w5 w6 := (by first | exact hb6 | exact Ev.trans (Ev.drew (Ev.refl _)) hb6); have hm6 : Mo mb w5 w6 := Mo.ev hc6)) | (go_at_call 87; have hE6 : Ev W4 w6 := hc5.trans hc6; ((with_reducible refine (HCST.out _ (HW4k.out.ev hE6) (HR4.out.ev hE6) (HW4k.out.tru.ev hE6)).mono ?_); rintro e w7 ⟨⟨D, d2, rfl, hsl⟩, hR7, hm7'⟩; have hm7 : Mo mb w5 w7 := hm6.trans hm7')))
      go_upto_region 8 with fail
      have hne : 0 < (y :: r).length := by simp
      obtain ⟨b', off, y', rfl, hbD, hy, hyd, hyc⟩ := hsl.int (Below.refl _ _) hne
      obtain rfl : y = y' := by simpa using hy
      have hcap := hsl.cap
      have hsm := hsl.small
      have hsl0 := hsl
      rw [List.length_cons] at hsl hcap hsm
      obtain ⟨T', hts, htsa, hst⟩ := tail1 hsl
      have hl : ∀ W, Ev w7 W → Calls Try.prog 88 #[.int .i64 y, .slice T' r.length (d2 - 1)] W fun e w' => e = .returned (.int .i64 (M.least y r)) ∧ Ev W w' := fun W hE => least_c y _ _ _ r W (hst.ev hE)
      have hix : ∀ W, Ev w7 W → Calls Try.prog 89 #[.slice (some ⟨b', off, none⟩) (r.length + 1) d2, .int .i64 (M.least y r)] W fun e w' => e = .returned (.int .i64 (M.idx (M.least y r) (y :: r) 0)) ∧ Ev W w' := fun W hE => idx_c _ _ _ (y :: r) _ W (hsl.ev hE)
      have HL := hid hl
      have HIX := hid hix
      have HSE7 : Hid (∀ w', Ev w7 w' → Ev w7 w' ∧ (∀ o, w'.cell? ⟨b', o, none⟩ = w7.cell? ⟨b', o, none⟩)) := hid (fun w' h => ⟨h, fun o => h.cells.1 _ o hbD⟩)
      have HEM := hid (Mo.evr (HE4.out.trans hc5) hm7 hmbw)
      clear hl hst hsl hsl0 hy hyd hix
      simp only [Nat.add_zero] at hyc
      go_region_held3 (fun w' => Ev w7 w' ∧ (∀ o, w'.cell? ⟨b', o, none⟩ = w7.cell? ⟨b', o, none⟩)) (exact HSE7.out _ (by repeat (first | with_reducible exact Ev.refl w7 | (with_reducible assumption) | with_reducible refine Ev.drew ?_ | with_reducible refine Ev.alloc ?_ _))) (first | (go_at_call 88; ((with_reducible refine (HL.out _ (by first | exact Ev.refl _ | exact Ev.drew (Ev.refl _))).mono ?_); rintro e w8 ⟨rfl, hb8⟩; have hc8 : Ev w7 w8 := (by first | exact hb8 | exact Ev.trans (Ev.drew (Ev.refl _)) hb8))))
      go_wp2_with (go_at_call 89; ((with_reducible refine (HIX.out _ hc8).mono ?_); rintro e w9 ⟨rfl, hb9⟩))
      go_ret3
      exact ⟨by rw [HNX.out]; rfl, HEM.out.trans (hc8.trans hb9)⟩
  · simp only [if_neg hb]
    generalize hk : M.begin f b = k at hb ⊢
    have hne : (k != 0) = true := by simpa using hb
    have hbg2 : ∀ W, Ev w W → Calls Try.prog 75 #[.agg #[.int .i64 f.rows, .int .i64 f.wds, .int .i64 f.lf.lo, .int .i64 f.lf.hi, .slice A n c], .bool b] W fun e w' => e = .returned (.tuple #[.pointer none, .int .i64 k]) ∧ Ev W w' := fun W hE => Calls.mono (hbg b W hE) (by
      rintro e w' ⟨⟨v, he, _, h2⟩, h3⟩
      rw [hk] at he h2
      rw [h2 hb] at he
      exact ⟨he, h3⟩)
    have HBG := hid hbg2
    clear hbg hbg2 hbb hb hk
    go_enter Try.func41, Try.ntmps41
    go_wp2
    generalize hW0 : World.alloc w _ = W0
    have hE0 : Ev w W0 := by rw [← hW0]; exact Ev.alloc (Ev.refl _) _
    have hal := alloc1 w (.cells #[.int .i64 f.rows, .int .i64 f.wds, .int .i64 f.lf.lo, .int .i64 f.lf.hi, .slice A n c] 36)
    rw [hW0] at hal
    obtain ⟨g0, g1, g2, g3, g4⟩ := cells5 hal.1
    have hwl := heap_lt hal.1
    have HSE : Hid (∀ w', Ev W0 w' → Ev W0 w' ∧ (∀ b o, b < W0.heap.size → w'.cell? ⟨b, o, none⟩ = W0.cell? ⟨b, o, none⟩)) := hid (fun w' h => ⟨h, h.cells.1⟩)
    clear hal hW0
    go_region_held3 (fun w' => Ev W0 w' ∧ (∀ b o, b < W0.heap.size → w'.cell? ⟨b, o, none⟩ = W0.cell? ⟨b, o, none⟩)) (exact HSE.out _ (by repeat (first | with_reducible exact Ev.refl W0 | (with_reducible assumption) | with_reducible refine Ev.drew ?_))) (first | (go_at_call 81; with_reducible refine (HHR.out _).mono ?_; rintro e w1 ⟨rfl, hb1⟩; have hc1 : Ev W0 w1 := (by first | exact hb1 | exact Ev.trans (Ev.drew (Ev.refl _)) hb1)) | (go_at_call 75; with_reducible refine (HBG.out _ (hE0.trans (by first | exact hc1 | exact Ev.drew hc1))).mono ?_; rintro e w2 ⟨rfl, hb2⟩; have hc2 : Ev W0 w2 := (by first | exact hc1.trans hb2 | exact Ev.trans (Ev.drew hc1) hb2)))
    go_wp2
    go_ret3
    exact ⟨rfl, hE0.trans hc2⟩

end Go.Proofs.Ytcecmphdmpeibaa

namespace Go.Proofs.Ytcecmphdmpeibaa
open Go.RowKit

def M.proveTruth (f : M.Fl) (tr : List Int) : Bool := decide (M.check f = 0) && (decide ((tr.length : Int) = f.rows) && (tr.all (M.canSay f) && (M.allows f (M.pad tr) && decide (M.wrong f (M.pad tr) = M.noFault))))

theorem slice7all (b : Nat) (w : World) :
    (Instr.sliceAt 101 (.pointer (some ⟨b, 0, none⟩)) none none none).run Try.prog w = .ok (.slice (some ⟨b, 0, none⟩) 7 7) w := by
  have ha : Try.prog.arrayLen 101 = 7 := by kernel_rfl
  have he : Try.prog.elem 101 = 3 := by kernel_rfl
  rw [run_sliceAt_array_all w 101 ⟨b, 0, none⟩ (by rw [ha, he]; exact Try.underlying101), he, Try.sizeOf3]
  simp only [Result.andThen_ok, slicedAt, ha]
  rw [if_neg (by omega)]
  simp [Addr.add]

theorem splice_pad {tr : List Int} (h : tr.length ≤ 7) : splice (M.blank.map (Value.int .i64)) 0 (tr.map (Value.int .i64)) = (M.pad tr).map (Value.int .i64) := by
  have hb : M.blank = List.replicate 7 (-2) := rfl
  unfold splice M.pad
  rw [hb, List.take_zero, List.nil_append, List.map_append, Nat.zero_add, List.length_map, ← List.map_drop, List.drop_replicate]

theorem Sl.src {w : World} {B : Nat} {A : Option Addr} {n c : Nat} {xs : List Int} (h : Sl ics 1 w B A n c xs) (hn : 0 < n) : ∃ ad, A = some ad ∧ ∀ (j : Nat) (v : Value), (xs.map (Value.int .i64))[j]? = some v → w.cell? (ad.add j) = some v := by
  obtain ⟨b, off, hA, _, hc⟩ := h.cells hn
  refine ⟨_, hA, fun j v hj => ?_⟩
  rw [List.getElem?_map] at hj
  cases hx : xs[j]? with
  | none => rw [hx] at hj; cases hj
  | some x =>
    rw [hx] at hj
    have := hc j x hx 0 v (by simpa [ics] using hj)
    rw [show (⟨b, off, none⟩ : Addr).add j = ⟨b, off + j, none⟩ from by unfold Addr.add; split <;> simp_all]
    simpa using this

set_option maxRecDepth 100000 in
set_option maxHeartbeats 2000000 in
theorem ProveTruth_c (f : M.Fl) (tr : List Int) (B : Option Addr) (m d : Nat) (A : Option Addr) (n c : Nat) (w : World) (hs : Sl tcs 5 w w.heap.size A n c f.ts) (ht : Sl ics 1 w w.heap.size B m d tr) :
    Calls Try.prog 25 #[fv f (.slice A n c), .slice B m d] w fun e w' => e = .returned (.bool (M.proveTruth f tr)) ∧ Ev w w' := by
  have hck := fun W (hE : Ev w W) => check_c f A n c W (hs.ev hE)
  have hal := fun W (hE : Ev w W) => allSay_c f B A m d n c tr W (ht.ev hE)
  have hsm := ht.small
  rw [fv_eq] at hck hal ⊢
  have HLEN := hid ht.len
  by_cases h0 : M.check f = 0
  · rw [h0] at hck
    by_cases h1 : (m : Int) = f.rows
    · have hne : ((m : Int) != f.rows) = false := by simpa using h1
      have hg := good_of h0
      have hr7 := hg.r7
      cases h2 : tr.all (M.canSay f) with
      | false =>
        have hv : M.proveTruth f tr = false := by unfold M.proveTruth; rw [h2]; simp
        rw [h2] at hal
        have HCK := hid hck
        have HAL := hid hal
        have HV := hid hv
        clear hck hal hv h0 h1 h2
        go_enter Try.func25, Try.ntmps25
        go_wp2_with (first | (go_at_call 23; ((with_reducible refine (HCK.out _ (Ev.alloc (Ev.refl _) _)).mono ?_); rintro e w1 ⟨rfl, hb1⟩; have hq1 := hb1.heap (alloc1 w (.cells #[.int .i64 f.rows, .int .i64 f.wds, .int .i64 f.lf.lo, .int .i64 f.lf.hi, .slice A n c] 36)).1; obtain ⟨g0, g1, g2, g3, g4⟩ := cells5 hq1; have hwl1 := heap_lt hq1; clear hq1)) | (go_at_call 68; ((with_reducible refine (HAL.out _ (Ev.trans (Ev.alloc (Ev.refl _) _) hb1)).mono ?_); rintro e w2 ⟨rfl, hb2⟩)))
        go_ret
        exact ⟨ret_bool HV.out.symm, Ev.trans (Ev.trans (Ev.alloc (Ev.refl _) _) hb1) hb2⟩
      | true =>
        have htl : tr.length ≤ 7 := by rw [ht.len]; omega
        have hpl := M.pad_len htl
        have hv : M.proveTruth f tr = (M.allows f (M.pad tr) && decide (M.wrong f (M.pad tr) = M.noFault)) := by unfold M.proveTruth; rw [h2, ht.len]; simp [h0, h1]
        have haw := fun W => allows_c f A n c (M.pad tr) hpl hg.r1 hg.r7 W
        have hwr := fun W (hE : Ev w W) => wrong_c f A n c (M.pad tr) hpl W (hs.ev hE) (by rw [← hs.len]; exact hg.n5) hg.vt
        have heq := fun W => eq105 (x := M.wrong f (M.pad tr)) (y := M.noFault) (M.wrong_len f _) rfl W
        have hnf : bv M.noFault = .agg #[.bool false, .bool false, .bool false, .bool false, .bool false] := rfl
        rw [h2] at hal
        rw [fv_eq] at haw hwr
        obtain ⟨p0, p1, p2, p3, p4, p5, p6, hpe⟩ := list7 hpl
        have hsv : sv (M.pad tr) = .agg #[.int .i64 p0, .int .i64 p1, .int .i64 p2, .int .i64 p3, .int .i64 p4, .int .i64 p5, .int .i64 p6] := by rw [hpe]; rfl
        rw [hsv] at haw hwr
        rw [hnf] at heq
        obtain ⟨y0, y1, y2, y3, y4, hye⟩ := list5 (l := M.wrong f (M.pad tr)) (M.wrong_len f _)
        have hbv : bv (M.wrong f (M.pad tr)) = .agg #[.bool y0, .bool y1, .bool y2, .bool y3, .bool y4] := by rw [hye]; rfl
        rw [hbv] at hwr heq
        have hsp := splice_pad htl
        have HSP := hid hsp
        have HPE := hid hpe
        generalize hq : decide (M.wrong f (M.pad tr) = M.noFault) = q at heq hv
        generalize hal0 : M.allows f (M.pad tr) = al at haw hv
        have HCK := hid hck
        have HAL := hid hal
        have HV := hid hv
        have HAW := hid haw
        have HWR := hid hwr
        have HHT := hid ht
        have htl7 : m ≤ 7 := by omega
        have hsl := fun b wx => slice7all b wx
        clear hck hal hv haw hwr h0 h1 h2 hpl hpe hsv hye hbv hsp hq hal0 htl hnf
        have hinf : (Try.prog.info? 3).map (·.size) = some 1 := by kernel_rfl
        have hone : ∀ v ∈ tr.map (Value.int .i64), v.oneCell' = true := by
          intro v hv
          obtain ⟨y, _, rfl⟩ := List.mem_map.1 hv
          rfl
        cases al with
        | true =>
          go_enter Try.func25, Try.ntmps25
          go_upto_region 4 with (first | (go_at_call 23; ((with_reducible refine (HCK.out _ (Ev.alloc (Ev.refl _) _)).mono ?_); rintro e w1 ⟨rfl, hb1⟩; have hq1 := hb1.heap (alloc1 w (.cells #[.int .i64 f.rows, .int .i64 f.wds, .int .i64 f.lf.lo, .int .i64 f.lf.hi, .slice A n c] 36)).1; obtain ⟨g0, g1, g2, g3, g4⟩ := cells5 hq1; have hwl1 := heap_lt hq1; have HQ1 := hid hq1; clear hq1)) | (go_at_call 68; ((with_reducible refine (HAL.out _ (Ev.trans (Ev.alloc (Ev.refl _) _) hb1)).mono ?_); rintro e w2 ⟨rfl, hb2⟩)) | (go_at_call 70; ((with_reducible refine (blank_c _).mono ?_); rintro e w3 ⟨rfl, hb3⟩)))
          generalize hW4 : World.alloc w3 _ = W4
          have hE4 : Ev w3 W4 := by rw [← hW4]; exact Ev.alloc (Ev.refl _) _
          have hS4 : W4.heap[w3.heap.size]? = some (.cells (M.blank.map (Value.int .i64)).toArray 101 (0, 0)) := by rw [← hW4]; exact heap_at _ _ rfl
          have hE14 : Ev w1 W4 := (hb2.trans hb3).trans hE4
          have hEw : Ev w W4 := (Ev.trans (Ev.alloc (Ev.refl _) _) hb1).trans hE14
          have hQ4 := hE14.heap HQ1.out
          have hz3 := (hb2.trans hb3).size
          have HS4 := hid hS4
          have HQ4 := hid hQ4
          have hsrc := (HHT.out.ev hEw).src
          have HSRC := hid hsrc
          clear hS4 hQ4 hW4 g0 g1 g2 g3 g4 hsrc
          go_wp2_with (first | (refine wpList_copy_splice rfl (.tmp 24) (.tmp 25) 27 27 rfl 3 Try.underlying27 hinf (some ⟨w3.heap.size, 0, none⟩) B 7 7 m d rfl rfl w3.heap.size 0 (M.blank.map (Value.int .i64)) 101 HS4.out (tr.map (Value.int .i64)) (by rw [List.length_map, HLEN.out]; exact (Nat.min_eq_left htl7).symm) (fun h0 => ⟨rfl, HSRC.out (by rw [List.length_map, HLEN.out] at h0; exact h0)⟩) (by rw [Nat.zero_add, List.length_map, HLEN.out]; exact htl7) hone w3.heap.size W4 (Below.refl _ _) (Nat.le_refl _) ?_; intro w5 hS5 hB5; have hS6 := hS5.out; rw [HSP.out, HPE.out] at hS6; obtain ⟨x0, x1, x2, x3, x4, x5, x6⟩ := cells7 (v0 := .int .i64 p0) (v1 := .int .i64 p1) (v2 := .int .i64 p2) (v3 := .int .i64 p3) (v4 := .int .i64 p4) (v5 := .int .i64 p5) (v6 := .int .i64 p6) hS6; have hQ5 : w5.heap[w.heap.size]? = some (.cells #[.int .i64 f.rows, .int .i64 f.wds, .int .i64 f.lf.lo, .int .i64 f.lf.hi, .slice A n c] 36 (0, 0)) := (hB5.block _ (by omega)).trans HQ4.out; obtain ⟨g0, g1, g2, g3, g4⟩ := cells5 hQ5; have HS6 := hid hS6; have HQ5 := hid hQ5; have hEw5 : Ev w w5 := Below.trans hEw (hB5.mono (by omega)); clear hS6 hQ5 hS5) | (go_at_call 71; ((with_reducible refine (HAW.out _).mono ?_); rintro e w6 ⟨rfl, hb6⟩; clear x0 x1 x2 x3 x4 x5 x6 g0 g1 g2 g3 g4; obtain ⟨x0, x1, x2, x3, x4, x5, x6⟩ := cells7 (v0 := .int .i64 p0) (v1 := .int .i64 p1) (v2 := .int .i64 p2) (v3 := .int .i64 p3) (v4 := .int .i64 p4) (v5 := .int .i64 p5) (v6 := .int .i64 p6) (hb6.heap HS6.out); obtain ⟨g0, g1, g2, g3, g4⟩ := cells5 (hb6.heap HQ5.out))) | (go_at_call 72; ((with_reducible refine (HWR.out _ (hEw5.trans hb6)).mono ?_); rintro e w7 ⟨rfl, hb7⟩)))
          go_ret
          exact ⟨ret_bool (by rw [HV.out]; simp), (hEw5.trans hb6).trans hb7⟩
        | false =>
          go_enter Try.func25, Try.ntmps25
          go_upto_region 4 with (first | (go_at_call 23; ((with_reducible refine (HCK.out _ (Ev.alloc (Ev.refl _) _)).mono ?_); rintro e w1 ⟨rfl, hb1⟩; have hq1 := hb1.heap (alloc1 w (.cells #[.int .i64 f.rows, .int .i64 f.wds, .int .i64 f.lf.lo, .int .i64 f.lf.hi, .slice A n c] 36)).1; obtain ⟨g0, g1, g2, g3, g4⟩ := cells5 hq1; have hwl1 := heap_lt hq1; have HQ1 := hid hq1; clear hq1)) | (go_at_call 68; ((with_reducible refine (HAL.out _ (Ev.trans (Ev.alloc (Ev.refl _) _) hb1)).mono ?_); rintro e w2 ⟨rfl, hb2⟩)) | (go_at_call 70; ((with_reducible refine (blank_c _).mono ?_); rintro e w3 ⟨rfl, hb3⟩)))
          generalize hW4 : World.alloc w3 _ = W4
          have hE4 : Ev w3 W4 := by rw [← hW4]; exact Ev.alloc (Ev.refl _) _
          have hS4 : W4.heap[w3.heap.size]? = some (.cells (M.blank.map (Value.int .i64)).toArray 101 (0, 0)) := by rw [← hW4]; exact heap_at _ _ rfl
          have hE14 : Ev w1 W4 := (hb2.trans hb3).trans hE4
          have hEw : Ev w W4 := (Ev.trans (Ev.alloc (Ev.refl _) _) hb1).trans hE14
          have hQ4 := hE14.heap HQ1.out
          have hz3 := (hb2.trans hb3).size
          have HS4 := hid hS4
          have HQ4 := hid hQ4
          have hsrc := (HHT.out.ev hEw).src
          have HSRC := hid hsrc
          clear hS4 hQ4 hW4 g0 g1 g2 g3 g4 hsrc
          go_wp2_with (first | (refine wpList_copy_splice rfl (.tmp 24) (.tmp 25) 27 27 rfl 3 Try.underlying27 hinf (some ⟨w3.heap.size, 0, none⟩) B 7 7 m d rfl rfl w3.heap.size 0 (M.blank.map (Value.int .i64)) 101 HS4.out (tr.map (Value.int .i64)) (by rw [List.length_map, HLEN.out]; exact (Nat.min_eq_left htl7).symm) (fun h0 => ⟨rfl, HSRC.out (by rw [List.length_map, HLEN.out] at h0; exact h0)⟩) (by rw [Nat.zero_add, List.length_map, HLEN.out]; exact htl7) hone w3.heap.size W4 (Below.refl _ _) (Nat.le_refl _) ?_; intro w5 hS5 hB5; have hS6 := hS5.out; rw [HSP.out, HPE.out] at hS6; obtain ⟨x0, x1, x2, x3, x4, x5, x6⟩ := cells7 (v0 := .int .i64 p0) (v1 := .int .i64 p1) (v2 := .int .i64 p2) (v3 := .int .i64 p3) (v4 := .int .i64 p4) (v5 := .int .i64 p5) (v6 := .int .i64 p6) hS6; have hQ5 : w5.heap[w.heap.size]? = some (.cells #[.int .i64 f.rows, .int .i64 f.wds, .int .i64 f.lf.lo, .int .i64 f.lf.hi, .slice A n c] 36 (0, 0)) := (hB5.block _ (by omega)).trans HQ4.out; obtain ⟨g0, g1, g2, g3, g4⟩ := cells5 hQ5; have HS6 := hid hS6; have HQ5 := hid hQ5; have hEw5 : Ev w w5 := Below.trans hEw (hB5.mono (by omega)); clear hS6 hQ5 hS5) | (go_at_call 71; ((with_reducible refine (HAW.out _).mono ?_); rintro e w6 ⟨rfl, hb6⟩; clear x0 x1 x2 x3 x4 x5 x6 g0 g1 g2 g3 g4; obtain ⟨x0, x1, x2, x3, x4, x5, x6⟩ := cells7 (v0 := .int .i64 p0) (v1 := .int .i64 p1) (v2 := .int .i64 p2) (v3 := .int .i64 p3) (v4 := .int .i64 p4) (v5 := .int .i64 p5) (v6 := .int .i64 p6) (hb6.heap HS6.out); obtain ⟨g0, g1, g2, g3, g4⟩ := cells5 (hb6.heap HQ5.out))))
          go_ret
          exact ⟨ret_bool (by rw [HV.out]; simp), hEw5.trans hb6⟩
    · have hne : ((m : Int) != f.rows) = true := by simpa using h1
      have hv : M.proveTruth f tr = false := by unfold M.proveTruth; rw [ht.len]; simp [h1]
      have HCK := hid hck
      have HV := hid hv
      clear hck hal hv h0 h1
      go_enter Try.func25, Try.ntmps25
      go_wp2_with (first | (go_at_call 23; ((with_reducible refine (HCK.out _ (Ev.alloc (Ev.refl _) _)).mono ?_); rintro e w1 ⟨rfl, hb1⟩; have hq1 := hb1.heap (alloc1 w (.cells #[.int .i64 f.rows, .int .i64 f.wds, .int .i64 f.lf.lo, .int .i64 f.lf.hi, .slice A n c] 36)).1; obtain ⟨g0, g1, g2, g3, g4⟩ := cells5 hq1; have hwl1 := heap_lt hq1; clear hq1)))
      go_ret
      exact ⟨ret_bool HV.out.symm, Ev.trans (Ev.alloc (Ev.refl _) _) hb1⟩
  · have hv : M.proveTruth f tr = false := by unfold M.proveTruth; simp [h0]
    generalize hk : M.check f = k at h0 hck
    have hne : (k != 0) = true := by simpa using h0
    have HCK := hid hck
    have HV := hid hv
    clear hck hal hv h0 hk
    go_enter Try.func25, Try.ntmps25
    go_wp2_with (first | (go_at_call 23; ((with_reducible refine (HCK.out _ (Ev.alloc (Ev.refl _) _)).mono ?_); rintro e w1 ⟨rfl, hb1⟩)))
    go_ret
    exact ⟨ret_bool HV.out.symm, Ev.trans (Ev.alloc (Ev.refl _) _) hb1⟩

end Go.Proofs.Ytcecmphdmpeibaa
