import Derived.Test.YtcecmphdmpeibaaL21
namespace Go.Proofs.Ytcecmphdmpeibaa
open Go.RowKit

/-- Do two lists say the same in the rows from r on that are among some (by bits)? -/
def M.agreeK (b : Nat) (t u : List Int) : Nat → Nat → Bool
  | _, 0 => true
  | r, j + 1 => (b / 2 ^ r % 2 == 0 || t.getD r 0 == u.getD r 0) && M.agreeK b t u (r + 1) j
def M.rclash (x : Int) (b : Nat) (t u : List Int) : Bool := (M.rnum x t != M.rnum x u) && M.agreeK b t u 0 t.length
def M.rsetK (x : Int) (b : Nat) : List (List Int) → List (List Int) → Bool
  | _, [] => true
  | pre, t :: r => pre.all (fun u => !M.rclash x b t u) && M.rsetK x b (pre ++ [t]) r
def M.rsettles (x : Int) (b : Nat) (l : List (List Int)) : Bool := M.rsetK x b [] l

theorem LL.row {w wr : World} {A : Option Addr} {n c : Nat} {xs : List (List Int)} (h : LL w A n c xs) (he : Ev w wr) {k : Nat} (hk : k < n) : ∃ x B m d, xs[k]? = some x ∧ m = x.length ∧ IRow w (B, m, d) x ∧ ∀ b off, A = some ⟨b, off, none⟩ → ∀ W, Ev w W → W.cell? ⟨b, off + k, none⟩ = some (.slice B m d) := by
  obtain ⟨b, off, x, B, m, d, hA, hb, hx, _, hc, hr⟩ := h.at_ (Ev.refl w) hk
  refine ⟨x, B, m, d, hx, (hr.sl).len.symm, hr, fun b' off' hA' W hE => ?_⟩
  rw [hA] at hA'
  injection hA' with hA'
  injection hA' with h1 h2
  subst h1 h2
  exact (hE.cells.1 b _ hb).trans hc

set_option maxRecDepth 100000 in
set_option maxHeartbeats 1000000 in
theorem Settles_c (x : Int) (rb R : Nat) (hrb : rb ≤ 127) (hR1 : 1 ≤ R) (hR7 : R ≤ 7) (A : Option Addr) (n c : Nat) (l : List (List Int)) (hlen : ∀ t ∈ l, t.length = R) (w : World) (hl : LL w A n c l) :
    Calls Try.prog 39 #[.slice A n c, .int .i64 x, .int .i64 rb] w fun e w' => e = .returned (.bool (M.rsettles x rb l)) ∧ Ev w w' := by
  have hsm := hl.small
  go_enter Try.func39, Try.ntmps39
  go_wp2
  go_loopw [7] (fun i wr => ∃ k : Nat, i = .int .i64 k ∧ k ≤ n ∧ Ev w wr ∧ Hid (M.rsetK x rb (l.take k) (l.drop k) = M.rsettles x rb l)) (fun i _ => n - (intOf i).toNat)
  case atStart => exact ⟨0, rfl, by omega, Ev.refl _, hid rfl⟩
  case round =>
    obtain ⟨i, rfl, hi, hB, hT⟩ := hrel
    by_cases hlt : i < n
    · obtain ⟨b, off, t, Bi, mi, di, rfl, hbl, hx, hd, ei, hri⟩ := hl.at_ hB hlt
      have hti := hlen t (List.mem_of_getElem? hx)
      obtain rfl : mi = R := by have := hri.sl.len; simp only at this; omega
      have HCI : Hid (∀ W, Ev w W → W.cell? ⟨b, off + i, none⟩ = some (.slice Bi mi di)) := hid (fun W hE => by
        have h1 := hB.cells.1 b (off + i) hbl
        rw [ei] at h1
        exact (hE.cells.1 b (off + i) hbl).trans h1.symm)
      have hT2 := hT.out
      rw [hd, M.rsetK] at hT2
      have HT2 := hid hT2
      have HX := hid hx
      have HTI := hid hti
      clear hx hd hT2 hti ei
      go_wp2_with fail
      go_loopw [8] (fun k wr => ∃ j : Nat, k = .int .i64 j ∧ j ≤ i ∧ Ev w wr ∧ Hid (((l.take i).drop j).all (fun u => !M.rclash x rb t u) = (l.take i).all (fun u => !M.rclash x rb t u))) (fun k _ => i - (intOf k).toNat)
      case atStart => exact ⟨0, rfl, by omega, hB, hid rfl⟩
      case round =>
        obtain ⟨j, rfl, hj, hB2, hJ⟩ := hrel
        by_cases hjl : j < i
        · obtain ⟨b', off', u, Bk, mk, dk, hA', _, hxk, _, ek, hrk⟩ := hl.at_ hB2 (show j < n by omega)
          injection hA' with hA'
          injection hA' with hb1 ho1
          subst hb1 ho1
          have htk := hlen u (List.mem_of_getElem? hxk)
          obtain rfl : mk = mi := by have := hrk.sl.len; simp only at this; omega
          have ei := HCI.out _ hB2
          have s1 : IntKind.i64.wrap ((mk : Int) - 1) = (mk : Int) - 1 := IntWalk.i64_in _ (by omega)
          have hdi := fun W (hE : Ev w W) => Did_s Bi mk di t x 0 ((mk : Int) - 1) (by omega) (by omega) (by omega) W (hri.ev hE).sl
          have hdk := fun W (hE : Ev w W) => Did_s Bk mk dk u x 0 ((mk : Int) - 1) (by omega) (by omega) (by omega) W (hrk.ev hE).sl
          have hcl : M.rclash x rb t u = ((M.count t x 0 ((mk : Int) - 1) != M.count u x 0 ((mk : Int) - 1)) && M.agreeK rb t u 0 mk) := by unfold M.rclash M.rnum; rw [HTI.out, htk]
          have hjx : ((l.take i).drop j).all (fun u => !M.rclash x rb t u) = (!M.rclash x rb t u && ((l.take i).drop (j + 1)).all (fun u => !M.rclash x rb t u)) := by
            have : (l.take i).drop j = u :: (l.take i).drop (j + 1) := drop_some (by rw [List.getElem?_take, if_pos hjl]; exact hxk)
            rw [this, List.all_cons]
          generalize M.count t x 0 ((mk : Int) - 1) = N1 at hdi hcl
          generalize M.count u x 0 ((mk : Int) - 1) = N2 at hdk hcl
          have hj2 := hJ.out
          rw [hjx] at hj2
          have HJ2 := hid hj2
          have HDI := hid hdi
          have HDK := hid hdk
          have HCL := hid hcl
          have HCK : Hid (∀ W, Ev w W → W.cell? ⟨b, off + j, none⟩ = some (.slice Bk mk dk)) := hid (fun W hE => by
            have h1 := hB2.cells.1 b (off + j) hbl
            rw [ek] at h1
            exact (hE.cells.1 b (off + j) hbl).trans h1.symm)
          clear hdi hdk hcl hjx hj2 hxk htk
          go_wp2_with (go_quiet ((first | (go_at_call_of 54 (Value.slice Bi mk di); exact Calls.quiet_of_same (HDI.out _ (by first | exact hB2 | exact hB2.drew | exact hB2.drewN _))) | (go_at_call_of 54 (Value.slice Bk mk dk); exact Calls.quiet_of_same (HDK.out _ (by first | exact hB2 | exact hB2.drew | exact hB2.drewN _))))))
          go_loopw [9, 10] (fun v r' wr => ∃ r : Nat, ∃ s : Bool, v = .bool s ∧ r' = .int .i64 r ∧ r ≤ mk ∧ Ev w wr ∧ Hid ((s && M.agreeK rb t u r (mk - r)) = M.rclash x rb t u)) (fun _ r' _ => mk - (intOf r').toNat)
          case atStart => exact ⟨0, (N1 != N2), rfl, rfl, by omega, hB2.drewN _, hid HCL.out.symm⟩
          case round =>
            obtain ⟨r, s, rfl, rfl, hr, hB3, hC⟩ := hrel
            have ei := HCI.out _ hB3
            have ek := HCK.out _ hB3
            cases s with
            | false =>
              have hcf : M.rclash x rb t u = false := by rw [← hC.out]; rfl
              have HCF := hid (show ((l.take i).drop (j + 1)).all (fun u => !M.rclash x rb t u) = (l.take i).all (fun u => !M.rclash x rb t u) by have := HJ2.out; rw [hcf] at this; simpa using this)
              clear hcf
              go_wp2
              all_goals exact ⟨⟨j + 1, by go_num, by omega, hB3, HCF⟩, by simp [intOf]; omega⟩
            | true =>
              by_cases hrl : r < mk
              · have hlt' := hri.ev hB3
                have hlk' := hrk.ev hB3
                obtain ⟨b3, off3, y, hA3, hb3, hy, _, ey⟩ := hlt'.sl.int (Below.refl _ wr) (show r < mk from hrl)
                obtain ⟨b4, off4, z, hA4, hb4, hz, _, ez⟩ := hlk'.sl.int (Below.refl _ wr) (show r < mk from hrl)
                simp only at hA3 hA4
                subst hA3 hA4
                have hcapi := hri.sl.cap
                have hcapk := hrk.sl.cap
                simp only at hcapi hcapk
                have hgy : t.getD r 0 = y := by rw [List.getD_eq_getElem?_getD, hy]; rfl
                have hgz : u.getD r 0 = z := by rw [List.getD_eq_getElem?_getD, hz]; rfl
                have hC2 := hC.out
                rw [show mk - r = (mk - (r + 1)) + 1 from by omega, M.agreeK, hgy, hgz, Bool.true_and] at hC2
                have q1 : (rb : Int) / 2 ^ r = ((rb / 2 ^ r : Nat) : Int) := by simp
                clear hlt' hlk' hgy hgz hy hz
                generalize rb / 2 ^ r = q at q1 hC2
                by_cases hq : q % 2 = 0
                · have q2 : (q : Int) % 2 = 0 := by omega
                  have q3 : (q : Int).tmod 2 = 0 := by rw [Int.tmod_eq_emod_of_nonneg (by omega)]; exact q2
                  have HZ := hid (show (true && M.agreeK rb t u (r + 1) (mk - (r + 1))) = M.rclash x rb t u by rw [← hC2, hq]; simp)
                  clear hC2 hq
                  go_wp2_with (go_quiet (fail))
                  exact ⟨⟨r + 1, true, rfl, by go_num, by omega, hB3.drewN _, HZ⟩, by simp [intOf]; omega⟩
                · have q2 : (q : Int) % 2 = 1 := by omega
                  have q3 : (q : Int).tmod 2 = 1 := by rw [Int.tmod_eq_emod_of_nonneg (by omega)]; exact q2
                  have hq1 : (q % 2 == 0) = false := by simpa using hq
                  rw [hq1, Bool.false_or] at hC2
                  by_cases hyz : y = z
                  · have hbe : (y == z) = true := by simpa using hyz
                    rw [hbe] at hC2
                    have HZ := hid hC2
                    clear hC2 hq hq1 hyz
                    go_wp2_with (go_quiet (fail))
                    exact ⟨⟨r + 1, true, rfl, by go_num, by omega, hB3.drewN _, HZ⟩, by simp [intOf]; omega⟩
                  · have hbe : (y == z) = false := by simpa using hyz
                    rw [hbe] at hC2
                    have HZ := hid (show (false && M.agreeK rb t u (r + 1) (mk - (r + 1))) = M.rclash x rb t u by rw [← hC2])
                    clear hC2 hq hq1 hyz
                    go_wp2_with (go_quiet (fail))
                    exact ⟨⟨r + 1, false, rfl, by go_num, by omega, hB3.drewN _, HZ⟩, by simp [intOf]; omega⟩
              · have hcf : M.rclash x rb t u = true := by rw [← hC.out, show mk - r = 0 from by omega]; rfl
                have HV := hid (show M.rsettles x rb l = false by rw [← HT2.out, ← HJ2.out, hcf]; rfl)
                clear hcf
                go_wp2
                go_ret
                exact ⟨ret_bool HV.out.symm, hB3⟩
        · have hji : j = i := by omega
          subst hji
          have hal : (l.take j).all (fun u => !M.rclash x rb t u) = true := by
            rw [← hJ.out, List.drop_eq_nil_of_le (by rw [List.length_take]; omega)]; rfl
          have htk : l.take (j + 1) = l.take j ++ [t] := by rw [List.take_add_one, HX.out]; rfl
          have HV := hid (show M.rsetK x rb (l.take (j + 1)) (l.drop (j + 1)) = M.rsettles x rb l by rw [← HT2.out, hal, htk]; rfl)
          clear hal htk
          go_wp2
          exact ⟨⟨j + 1, by go_num, by omega, hB2, HV⟩, by simp [intOf]; omega⟩
    · have hv : M.rsettles x rb l = true := by rw [← hT.out, hs_nil hl hlt]; rfl
      have HV := hid hv
      clear hv
      go_wp2
      go_ret
      exact ⟨ret_bool HV.out.symm, hB⟩

end Go.Proofs.Ytcecmphdmpeibaa
