import Derived.Test.YtcecmphdmpeibaaL22
namespace Go.Proofs.Ytcecmphdmpeibaa
open Go.RowKit

set_option maxRecDepth 100000 in
set_option maxHeartbeats 2000000 in
theorem rAsk_c (f : M.Fl) (r1 : 1 ≤ f.rows) (r7 : f.rows ≤ 7) (x : Int) (A : Option Addr) (n c : Nat) (B : Option Addr) (m d : Nat) (l : List (List Int)) (hlen : ∀ t ∈ l, t.length = f.rows.toNat) (w : World) (hl : LL w B m d l) :
    Calls Try.prog 40 #[.agg #[.int .i64 f.rows, .int .i64 f.wds, .int .i64 f.lf.lo, .int .i64 f.lf.hi, .slice A n c], .slice B m d, .int .i64 x] w fun e w' => (∃ B d, e = .returned (.slice B (M.pick (fun b => M.rsettles x b l) 0 (2 ^ f.rows.toNat - 1 + 1) (M.bits (2 ^ f.rows.toNat - 1))).length d) ∧ Sl ics 1 w' w'.heap.size B (M.pick (fun b => M.rsettles x b l) 0 (2 ^ f.rows.toNat - 1 + 1) (M.bits (2 ^ f.rows.toNat - 1))).length d (M.pick (fun b => M.rsettles x b l) 0 (2 ^ f.rows.toNat - 1 + 1) (M.bits (2 ^ f.rows.toNat - 1)))) ∧ Ev w w' := by
  obtain ⟨R, hR⟩ := Int.eq_ofNat_of_zero_le (show 0 ≤ f.rows by omega)
  have hR7 : R ≤ 7 := by omega
  obtain ⟨p1, p2⟩ := wrap_pow hR7
  have hF : 2 ^ R - 1 ≤ 127 := by have := pow_lt128 hR7; omega
  have hPF : (2 : Int) ^ R = ((2 ^ R - 1 : Nat) : Int) + 1 := by
    have h1 : 0 < 2 ^ R := Nat.pow_pos (by omega)
    have h2 : ((2 ^ R : Nat) : Int) = (2 : Int) ^ R := by simp
    omega
  rw [hR] at hlen ⊢
  rw [Int.toNat_natCast] at hlen ⊢
  generalize 2 ^ R - 1 = F at p2 hF hPF ⊢
  generalize htg : M.pick (fun b => M.rsettles x b l) 0 (F + 1) (M.bits F) = target
  have hst := fun W b (hb : b ≤ 127) (hE : Ev w W) => Settles_c x b R hb (by omega) hR7 B m d l hlen W (hl.ev hE)
  have HST := hid hst
  have HTG := hid htg
  clear hst htg hlen hl hR
  go_enter Try.func40, Try.ntmps40
  go_wp2_with (first | (go_at_call 59; ((with_reducible refine (Bits_c F (by omega) _).mono ?_); rintro e w2 ⟨⟨B2, d2, rfl, hs2⟩, hb2⟩; have HS2 := hid hs2; have HQ2 := hid (hb2.heap (alloc1 w (.cells #[.int .i64 R, .int .i64 f.wds, .int .i64 f.lf.lo, .int .i64 f.lf.hi, .slice A n c] 26)).1); have hE2 := Ev.trans (Ev.alloc (Ev.refl w) (.cells #[.int .i64 R, .int .i64 f.wds, .int .i64 f.lf.lo, .int .i64 f.lf.hi, .slice A n c] 26)) hb2; clear hs2)))
  go_loopw [7, 8] (fun v i wr => ∃ k : Nat, ∃ best : List Int, ∃ Bs : Option Addr, ∃ ms ds : Nat, v = .slice Bs ms ds ∧ i = .int .i64 k ∧ k ≤ F + 1 ∧ Ev w wr ∧ Hid (wr.heap[w.heap.size]? = some (.cells #[.int .i64 R, .int .i64 f.wds, .int .i64 f.lf.lo, .int .i64 f.lf.hi, .slice A n c] 26 (0, 0))) ∧ Hid (Sl ics 1 wr wr.heap.size Bs ms ds best) ∧ Hid (M.pick (fun b => M.rsettles x b l) k (F + 1 - k) best = target)) (fun _ i _ => F + 1 - (intOf i).toNat)
  case atStart => exact ⟨0, M.bits F, B2, _, d2, rfl, rfl, by omega, hE2, HQ2, HS2, HTG⟩
  case round =>
    obtain ⟨k, best, Bs, ms, ds, rfl, rfl, hk, hB, hQ, hS, hT⟩ := hrel
    obtain ⟨q0, q1, q2, q3, q4⟩ := cells5 hQ.out
    have hlq := heap_lt hQ.out
    by_cases hlt : k < F + 1
    · have hltI : (k : Int) < (F : Int) + 1 := by omega
      have hT2 := hT.out
      rw [show F + 1 - k = (F + 1 - (k + 1)) + 1 from by omega, M.pick] at hT2
      have hsh := fun B1 d1 B2 d2 W h1 h2 => Shorter_c B1 B2 (M.bits k).length d1 ms d2 (M.bits k) best W h1 h2
      have hsk := fun W (hE : Ev w W) => HST.out W k (by omega) hE
      cases hss : M.shorter (M.bits k) best with
      | false =>
        rw [hss] at hsh hT2
        have HT2 := hid hT2
        have HSH := hid hsh
        clear hT2 hsh hss hsk
        go_wp2_with (first | (go_at_call 59; ((with_reducible refine (Bits_c k (by omega) _).mono ?_); rintro e w2 ⟨⟨B2, d2, rfl, hs2⟩, hb2⟩; have HS2 := hid hs2; clear hs2)) | (go_at_call 58; ((with_reducible refine (HSH.out _ _ _ _ _ HS2.out (hS.out.ev hb2)).mono ?_); rintro e w3 ⟨rfl, hb3⟩; have hG := hb2.trans hb3)))
        exact ⟨⟨k + 1, best, Bs, ms, ds, rfl, by go_num, by omega, hB.trans hG, hid (hG.heap hQ.out), hid (hS.out.ev hG), hid (by have := HT2.out; simpa using this)⟩, by simp [intOf]; omega⟩
      | true =>
        rw [hss] at hsh hT2
        cases hcc : M.rsettles x k l with
        | false =>
          rw [hcc] at hsk hT2
          have HT2 := hid hT2
          have HSH := hid hsh
          have HSK := hid hsk
          clear hT2 hsh hss hsk hcc
          go_wp2_with (first | (go_at_call 59; ((with_reducible refine (Bits_c k (by omega) _).mono ?_); rintro e w2 ⟨⟨B2, d2, rfl, hs2⟩, hb2⟩; have HS2 := hid hs2; clear hs2)) | (go_at_call 58; ((with_reducible refine (HSH.out _ _ _ _ _ HS2.out (hS.out.ev hb2)).mono ?_); rintro e w3 ⟨rfl, hb3⟩; have hG := hb2.trans hb3)) | (go_at_call 39; ((with_reducible refine (HSK.out _ (hB.trans hG)).mono ?_); rintro e w4 ⟨rfl, hb4⟩)))
          have hG4 := hG.trans hb4
          exact ⟨⟨k + 1, best, Bs, ms, ds, rfl, by go_num, by omega, hB.trans hG4, hid (hG4.heap hQ.out), hid (hS.out.ev hG4), hid (by have := HT2.out; simpa using this)⟩, by simp [intOf]; omega⟩
        | true =>
          rw [hcc] at hsk hT2
          have HT2 := hid hT2
          have HSH := hid hsh
          have HSK := hid hsk
          clear hT2 hsh hss hsk hcc
          go_wp2_with (first | (go_at_call 59; ((with_reducible refine (Bits_c k (by omega) _).mono ?_); rintro e w2 ⟨⟨B2, d2, rfl, hs2⟩, hb2⟩; have HS2 := hid hs2; clear hs2)) | (go_at_call 58; ((with_reducible refine (HSH.out _ _ _ _ _ HS2.out (hS.out.ev hb2)).mono ?_); rintro e w3 ⟨rfl, hb3⟩; have hG := hb2.trans hb3)) | (go_at_call 39; ((with_reducible refine (HSK.out _ (hB.trans hG)).mono ?_); rintro e w4 ⟨rfl, hb4⟩)))
          have hG4 := hG.trans hb4
          exact ⟨⟨k + 1, M.bits k, B2, (M.bits k).length, d2, rfl, by go_num, by omega, hB.trans hG4, hid (hG4.heap hQ.out), hid (HS2.out.ev (hb3.trans hb4)), hid (by have := HT2.out; simpa using this)⟩, by simp [intOf]; omega⟩
    · have hT2 := hT.out
      have hnI : ¬ (k : Int) < (F : Int) + 1 := by omega
      rw [show F + 1 - k = 0 from by omega, M.pick] at hT2
      obtain rfl := hT2
      have hml := hS.out.len
      have HML := hid hml
      clear hml
      go_wp2
      go_ret
      rw [HML.out]
      exact ⟨⟨Bs, ds, rfl, hS.out⟩, hB⟩

end Go.Proofs.Ytcecmphdmpeibaa
