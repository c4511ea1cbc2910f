import Derived.Test.YtcecmphdmpeibaaL3
namespace Go.Proofs.Ytcecmphdmpeibaa
open Go.RowKit

set_option maxRecDepth 100000 in
set_option maxHeartbeats 1000000 in
theorem Right_c (A : Option Addr) (n c : Nat) (l : List Int) (t : M.Tl) (h0 : 0 ≤ t.fr) (h1 : t.fr ≤ t.to) (h2 : t.to < n) (w : World) (hs : Sl ics 1 w w.heap.size A n c l) :
    Calls Try.prog 74 #[.slice A n c, .agg #[.int .i64 t.wd, .int .i64 t.fr, .int .i64 t.to, .int .i64 t.ct.lo, .int .i64 t.ct.hi]] w fun e w' => e = .returned (.bool (M.holds t.ct (M.count l t.wd t.fr t.to))) ∧ Ev w w' := by
  have hd := fun W (hE : Ev w W) => Did_s A n c l t.wd t.fr t.to h0 h1 h2 W (hs.ev hE)
  have H := hid hd
  clear hd
  go_enter Try.func74, Try.ntmps74
  go_wp2_with (go_quiet ((first | (go_at_call 54; exact Calls.quiet_of_same (H.out _ (by first | exact Ev.alloc (Ev.refl _) _ | exact Ev.drewN (Ev.alloc (Ev.refl _) _) _))) | (go_at_call 33; exact Calls.quiet_of_same (In_s _ _ _ _)))))
  go_ret
  exact ⟨rfl, Ev.drewN (Ev.alloc (Ev.refl _) _) _⟩


/-- A list that says something of each row, and leaves as many as it may. -/
def M.isAllowed (f : M.Fl) (l : List Int) : Bool := l.all (fun y => M.isIn y (-1) (f.wds - 1)) && (decide ((l.length : Int) = f.rows) && M.holds f.lf (M.count l (-1) 0 (f.rows - 1)))
def M.isTruth (f : M.Fl) (l : List Int) : Bool := M.isAllowed f l && f.ts.all (fun t => M.holds t.ct (M.count l t.wd t.fr t.to))

set_option maxRecDepth 100000 in
set_option maxHeartbeats 1000000 in
theorem IsAllowed_c (f : M.Fl) (A : Option Addr) (n c : Nat) (B : Option Addr) (m d : Nat) (l : List Int) (r1 : 1 ≤ f.rows) (r7 : f.rows ≤ 7) (d1 : 1 ≤ f.wds) (d3 : f.wds ≤ 3) (w : World) (ht : Sl ics 1 w w.heap.size B m d l) :
    Calls Try.prog 73 #[.agg #[.int .i64 f.rows, .int .i64 f.wds, .int .i64 f.lf.lo, .int .i64 f.lf.hi, .slice A n c], .slice B m d] w fun e w' => e = .returned (.bool (M.isAllowed f l)) ∧ Ev w w' := by
  have hsm := ht.small
  have HL := hid ht.len
  go_enter Try.func73, Try.ntmps73
  go_wp2
  generalize hW0 : World.alloc w _ = W0
  have hE0 : Ev w W0 := by rw [← hW0]; exact Ev.alloc (Ev.refl _) _
  have hal := alloc1 w (.cells #[.int .i64 f.rows, .int .i64 f.wds, .int .i64 f.lf.lo, .int .i64 f.lf.hi, .slice A n c] 26)
  rw [hW0] at hal
  have HQ := hid hal.1
  clear hal hW0
  go_loopw [5] (fun i wr => ∃ k : Nat, i = .int .i64 k ∧ k ≤ m ∧ Ev W0 wr ∧ Hid ((l.drop k).all (fun y => M.isIn y (-1) (f.wds - 1)) = l.all (fun y => M.isIn y (-1) (f.wds - 1)))) (fun i _ => m - (intOf i).toNat)
  case atStart => exact ⟨0, rfl, by omega, Ev.refl _, hid rfl⟩
  case round =>
    obtain ⟨k, rfl, hk, hB, hall⟩ := hrel
    have hq := hB.heap HQ.out
    obtain ⟨q0, q1, q2, q3, q4⟩ := cells5 hq
    clear hq
    by_cases hlt : k < m
    · obtain ⟨b, off, x, rfl, hb, hx, hd, e0⟩ := ht.int (hE0.trans hB) hlt
      have H := hid hd
      clear hd hx
      cases h1 : M.isIn x (-1) (f.wds - 1) with
      | false =>
        go_wp2_with (go_quiet ((go_at_call 33; exact Calls.quiet_of_same (In_s _ _ _ _))))
        go_ret
        exact ⟨ret_bool (by unfold M.isAllowed; rw [← hall.out, H.out, List.all_cons, h1]; rfl), hE0.trans (hB.drewN _)⟩
      | true =>
        go_wp2_with (go_quiet ((go_at_call 33; exact Calls.quiet_of_same (In_s _ _ _ _))))
        exact ⟨⟨k + 1, by go_num, by omega, hB.drewN _, hid (by rw [← hall.out, H.out, List.all_cons, h1, Bool.true_and])⟩, by simp [intOf]; omega⟩
    · have HN := hid (show l.all (fun y => M.isIn y (-1) (f.wds - 1)) = true by rw [← hall.out, ht.done hlt]; rfl)
      by_cases hlen : (m : Int) = f.rows
      · have hbe : ((m : Int) == f.rows) = true := by simpa using hlen
        have hlt2 : f.rows - 1 < (m : Int) := by omega
        have HLEN := hid hlen
        have hd := fun W (hE : Ev w W) => Did_s B m d l (-1) 0 (f.rows - 1) (by omega) (by omega) hlt2 W (ht.ev hE)
        have HD := hid hd
        clear hlen hd
        go_wp2_with (go_quiet ((first | (go_at_call 54; exact Calls.quiet_of_same (HD.out _ (by first | exact hE0.trans hB | exact hE0.trans (hB.drewN _)))) | (go_at_call 33; exact Calls.quiet_of_same (In_s _ _ _ _)))))
        go_ret
        exact ⟨ret_bool (by unfold M.isAllowed; rw [HN.out, HL.out, decide_eq_true HLEN.out]; rfl), hE0.trans (hB.drewN _)⟩
      · have hbe : ((m : Int) == f.rows) = false := by simpa using hlen
        have HLEN := hid hlen
        clear hlen
        go_wp2_with (go_quiet (fail))
        go_ret
        exact ⟨ret_bool (by unfold M.isAllowed; rw [HN.out, HL.out, decide_eq_false HLEN.out]; rfl), hE0.trans (hB.drewN _)⟩

set_option maxRecDepth 100000 in
set_option maxHeartbeats 1000000 in
theorem IsTruth_c (f : M.Fl) (A : Option Addr) (n c : Nat) (B : Option Addr) (m d : Nat) (l : List Int) (r1 : 1 ≤ f.rows) (r7 : f.rows ≤ 7) (d1 : 1 ≤ f.wds) (d3 : f.wds ≤ 3) (hv : ∀ t ∈ f.ts, 0 ≤ t.fr ∧ t.fr ≤ t.to ∧ t.to < f.rows) (w : World) (hs : Sl tcs 5 w w.heap.size A n c f.ts) (ht : Sl ics 1 w w.heap.size B m d l) :
    Calls Try.prog 27 #[.agg #[.int .i64 f.rows, .int .i64 f.wds, .int .i64 f.lf.lo, .int .i64 f.lf.hi, .slice A n c], .slice B m d] w fun e w' => e = .returned (.bool (M.isTruth f l)) ∧ Ev w w' := by
  have hsm := ht.small
  have hsm2 := hs.small
  have HV := hid hv
  have ha := fun W (hE : Ev w W) => IsAllowed_c f A n c B m d l r1 r7 d1 d3 W (ht.ev hE)
  have HA := hid ha
  clear hv ha
  cases hal : M.isAllowed f l with
  | false =>
    have hv : M.isTruth f l = false := by unfold M.isTruth; rw [hal]; rfl
    have HT := hid hv
    clear hv
    go_enter Try.func27, Try.ntmps27
    go_wp2_with (go_at_call 73; ((with_reducible refine (HA.out _ (Ev.alloc (Ev.refl _) _)).mono ?_); rintro e w1 ⟨rfl, hb1⟩))
    go_ret
    exact ⟨ret_bool HT.out.symm, Ev.trans (Ev.alloc (Ev.refl _) _) hb1⟩
  | true =>
    have hlen : (m : Int) = f.rows := by
      unfold M.isAllowed at hal
      simp only [Bool.and_eq_true, decide_eq_true_eq] at hal
      rw [← ht.len]; exact hal.2.1
    have HLEN := hid hlen
    have hv : M.isTruth f l = f.ts.all (fun t => M.holds t.ct (M.count l t.wd t.fr t.to)) := by unfold M.isTruth; rw [hal]; rfl
    have HT := hid hv
    clear hv hlen
    go_enter Try.func27, Try.ntmps27
    go_wp2_with (go_at_call 73; ((with_reducible refine (HA.out _ (Ev.alloc (Ev.refl _) _)).mono ?_); rintro e w1 ⟨rfl, hb1⟩))
    have hE1 : Ev w w1 := Ev.trans (Ev.alloc (Ev.refl _) _) hb1
    have HQ := hid (hb1.heap (alloc1 w (.cells #[.int .i64 f.rows, .int .i64 f.wds, .int .i64 f.lf.lo, .int .i64 f.lf.hi, .slice A n c] 26)).1)
    go_loopw [5] (fun i wr => ∃ k : Nat, i = .int .i64 k ∧ k ≤ n ∧ Ev w1 wr ∧ Hid ((f.ts.drop k).all (fun t => M.holds t.ct (M.count l t.wd t.fr t.to)) = f.ts.all (fun t => M.holds t.ct (M.count l t.wd t.fr t.to)))) (fun i _ => n - (intOf i).toNat)
    case atStart => exact ⟨0, rfl, by omega, Ev.refl _, hid rfl⟩
    case round =>
      obtain ⟨k, rfl, hk, hB, hall⟩ := hrel
      have hq := hB.heap HQ.out
      obtain ⟨q0, q1, q2, q3, q4⟩ := cells5 hq
      clear hq
      by_cases hlt : k < n
      · obtain ⟨b, off, x, rfl, hb, hx, hd, hcc⟩ := hs.at_ (hE1.trans hB) hlt
        have e0 := hcc 0 _ rfl
        have e1 := hcc 1 _ rfl
        have e2 := hcc 2 _ rfl
        have e3 := hcc 3 _ rfl
        have e4 := hcc 4 _ rfl
        clear hcc
        simp only [Nat.add_zero] at e0
        obtain ⟨v0, v1, v2⟩ := HV.out x (List.mem_of_getElem? hx)
        have hR := fun W (hE : Ev w W) => Right_c B m d l x v0 v1 (by have := HLEN.out; omega) W (ht.ev hE)
        have HR := hid hR
        have H := hid hd
        clear hd hx hR v0 v1 v2
        cases h1 : M.holds x.ct (M.count l x.wd x.fr x.to) with
        | false =>
          go_wp2_with (go_at_call 74; ((with_reducible refine (HR.out _ (hE1.trans hB)).mono ?_); rintro e w2 ⟨rfl, hb2⟩))
          go_ret
          exact ⟨ret_bool (by rw [HT.out, ← hall.out, H.out, List.all_cons, h1]; rfl), hE1.trans (hB.trans hb2)⟩
        | true =>
          go_wp2_with (go_at_call 74; ((with_reducible refine (HR.out _ (hE1.trans hB)).mono ?_); rintro e w2 ⟨rfl, hb2⟩))
          exact ⟨⟨k + 1, by go_num, by omega, hB.trans hb2, hid (by rw [← hall.out, H.out, List.all_cons, h1, Bool.true_and])⟩, by simp [intOf]; omega⟩
      · have HN := hid (show f.ts.all (fun t => M.holds t.ct (M.count l t.wd t.fr t.to)) = true by rw [← hall.out, hs.done hlt]; rfl)
        go_wp2
        go_ret
        exact ⟨ret_bool (by rw [HT.out, HN.out]), hE1.trans hB⟩

end Go.Proofs.Ytcecmphdmpeibaa
