import Derived.Test.YtcecmphdmpeibaaL17
namespace Go.Proofs.Ytcecmphdmpeibaa
open Go.RowKit

/-- Which tallies are right in a list, by bits. -/
def M.rbitsK (l : List Int) : List M.Tl → Nat → Nat → Nat
  | [], _, acc => acc
  | t :: r, i, acc => M.rbitsK l r (i + 1) (if M.holds t.ct (M.count l t.wd t.fr t.to) then acc ||| 2 ^ i else acc)
def M.rbits (f : M.Fl) (l : List Int) : Nat := M.rbitsK l f.ts 0 0
def M.rallK (f : M.Fl) : Nat → Nat → List Nat
  | _, 0 => []
  | k, j + 1 => (if M.isAllowed f (M.nth f k) then [M.rbits f (M.nth f k)] else []) ++ M.rallK f (k + 1) j
def M.rall (f : M.Fl) : List Nat := M.rallK f 0 (M.power f).toNat

theorem ncs_len (ys : List Nat) : ∀ y ∈ ys, (ncs y).length = 1 := fun _ _ => rfl
theorem or_fact {a i : Nat} (ha : a < 32) (hi : i ≤ 4) : wrap64 (2 ^ i) = 2 ^ i ∧ bits .or .i64 (a : Int) (2 ^ i) = ((a ||| 2 ^ i : Nat) : Int) ∧ a ||| 2 ^ i < 32 := by
  have h2 : 2 ^ i < 32 := by
    have : i = 0 ∨ i = 1 ∨ i = 2 ∨ i = 3 ∨ i = 4 := by omega
    rcases this with rfl | rfl | rfl | rfl | rfl <;> decide
  have h := (bits_three (a := a) (b := 2 ^ i) (by omega) (by omega)).2.1
  have hc : ((2 ^ i : Nat) : Int) = (2 : Int) ^ i := by simp
  rw [hc] at h
  exact ⟨(wrap_pow (by omega)).1, h, Nat.or_lt_two_pow (n := 5) ha h2⟩

set_option maxRecDepth 100000 in
set_option maxHeartbeats 2000000 in
theorem All_c (f : M.Fl) (r1 : 1 ≤ f.rows) (r7 : f.rows ≤ 7) (d1 : 1 ≤ f.wds) (d3 : f.wds ≤ 3) (hv : M.tin f) (A : Option Addr) (n c : Nat) (hn5 : n ≤ 5) (w : World) (hs : Sl tcs 5 w w.heap.size A n c f.ts) :
    Calls Try.prog 45 #[.agg #[.int .i64 f.rows, .int .i64 f.wds, .int .i64 f.lf.lo, .int .i64 f.lf.hi, .slice A n c]] w fun e w' => (∃ B m d, e = .returned (.slice B m d) ∧ Sl ncs 1 w' w'.heap.size B m d (M.rall f)) ∧ Ev w w' := by
  obtain ⟨i0, hi0, hz0, hz1, hz2⟩ := info_parts info3
  obtain ⟨P, hP, hP2, -⟩ := M.power_nat r1 r7 d1 d3
  have hmany := fun W => Many_c f A n c W (by omega) (by omega) (by omega) (by omega)
  rw [hP] at hmany
  have hnth := fun W k (hk : k ≤ 16384) => Nth_c f r1 r7 d1 d3 k hk A n c W
  have hrt : M.rall f = M.rallK f 0 P := by unfold M.rall; rw [hP]; rfl
  have HMANY := hid hmany
  have HNTH := hid hnth
  have HRT := hid hrt
  have HV := hid hv
  clear hmany hnth hrt hP hv
  go_enter Try.func45, Try.ntmps45
  go_wp2
  generalize hW0 : World.alloc w _ = W0
  have hE0 : Ev w W0 := by rw [← hW0]; exact Ev.alloc (Ev.refl _) _
  have hal := alloc1 w (.cells #[.int .i64 f.rows, .int .i64 f.wds, .int .i64 f.lf.lo, .int .i64 f.lf.hi, .slice A n c] 26)
  rw [hW0] at hal
  have Q0 := hid hal.1
  clear hal hW0
  go_loopw [3, 4] (fun v i wr => ∃ k : Nat, ∃ ys : List Nat, i = .int .i64 k ∧ k ≤ P ∧ Ev w wr ∧ Hid (wr.heap[w.heap.size]? = some (.cells #[.int .i64 f.rows, .int .i64 f.wds, .int .i64 f.lf.lo, .int .i64 f.lf.hi, .slice A n c] 26 (0, 0))) ∧ wr.ownsRow (w.heap.size + 1) 3 1 v ys.length (ys.flatMap ncs) ∧ ys.length ≤ k ∧ Hid (ys ++ M.rallK f k (P - k) = M.rall f)) (fun _ i _ => P - (intOf i).toNat)
  case atStart => exact ⟨0, [], rfl, by omega, hE0, Q0, World.ownsRow_nil _ _ _ _, by simp, hid HRT.out.symm⟩
  case round =>
    obtain ⟨k, ys, rfl, hk, hB, hQ, hown, hyk, hp⟩ := hrel
    obtain ⟨q0, q1, q2, q3, q4⟩ := cells5 hQ.out
    have hlq := heap_lt hQ.out
    by_cases hlt : k < P
    · have hp2 := hp.out
      rw [show P - k = (P - (k + 1)) + 1 from by omega, M.rallK] at hp2
      have hnl : (M.nth f k).length = f.rows.toNat := by unfold M.nth; rw [M.nthK_len]
      have hisa := fun W B m d (ht : Sl ics 1 W W.heap.size B m d (M.nth f k)) => IsAllowed_c f A n c B m d (M.nth f k) r1 r7 d1 d3 W ht
      have hbs := hB.size
      cases hb : M.isAllowed f (M.nth f k) with
      | false =>
        rw [hb] at hisa hp2
        have HISA := hid hisa
        have HP2 := hid hp2
        clear hisa hp2 hb hnl
        go_wp2_with (first | (go_at_call 65; ((with_reducible refine (HMANY.out _).mono ?_); rintro e w1 ⟨rfl, hb1⟩; clear q0 q1 q2 q3 q4; obtain ⟨q0, q1, q2, q3, q4⟩ := cells5 (hb1.heap hQ.out))) | (go_at_call 95; ((with_reducible refine (HNTH.out _ k (by omega)).mono ?_); rintro e w2 ⟨⟨B2, d2, rfl, ho2⟩, hb2⟩; have HO2 := hid ho2; clear ho2; clear q0 q1 q2 q3 q4; obtain ⟨q0, q1, q2, q3, q4⟩ := cells5 ((hb1.trans hb2).heap hQ.out))) | (go_at_call 73; ((with_reducible refine (HISA.out _ _ _ _ (sl_own (by decide) (fun _ _ => rfl) (by omega) HO2.out)).mono ?_); rintro e w3 ⟨rfl, hb3⟩; have hG := (hb1.trans hb2).trans hb3; clear q0 q1 q2 q3 q4; obtain ⟨q0, q1, q2, q3, q4⟩ := cells5 (hG.heap hQ.out))))
        refine ⟨⟨k + 1, ys, by go_num, by omega, hB.trans hG, hid (hG.heap hQ.out), hown.ev hG, by omega, hid ?_⟩, by simp [intOf]; omega⟩
        have := HP2.out
        simpa using this
      | true =>
        rw [hb] at hisa hp2
        have HISA := hid hisa
        have HP2 := hid hp2
        clear hisa hp2 hb hnl
        go_wp2_with (first | (go_at_call 65; ((with_reducible refine (HMANY.out _).mono ?_); rintro e w1 ⟨rfl, hb1⟩; clear q0 q1 q2 q3 q4; obtain ⟨q0, q1, q2, q3, q4⟩ := cells5 (hb1.heap hQ.out))) | (go_at_call 95; ((with_reducible refine (HNTH.out _ k (by omega)).mono ?_); rintro e w2 ⟨⟨B2, d2, rfl, ho2⟩, hb2⟩; have HO2 := hid ho2; clear ho2; clear q0 q1 q2 q3 q4; obtain ⟨q0, q1, q2, q3, q4⟩ := cells5 ((hb1.trans hb2).heap hQ.out))) | (go_at_call 73; ((with_reducible refine (HISA.out _ _ _ _ (sl_own (by decide) (fun _ _ => rfl) (by omega) HO2.out)).mono ?_); rintro e w3 ⟨rfl, hb3⟩; have hG := (hb1.trans hb2).trans hb3; clear q0 q1 q2 q3 q4; obtain ⟨q0, q1, q2, q3, q4⟩ := cells5 (hG.heap hQ.out))))
        have HO3 := hid (HO2.out.ev hb3)
        have hE3 := hB.trans hG
        have HQ3 := hid (hG.heap hQ.out)
        clear q0 q1 q2 q3 q4 HO2
        go_loopw [6, 7] (fun v i wx => ∃ j acc : Nat, v = .int .i64 acc ∧ i = .int .i64 j ∧ j ≤ n ∧ acc < 32 ∧ Ev w3 wx ∧ Hid (M.rbitsK (M.nth f k) (f.ts.drop j) j acc = M.rbits f (M.nth f k))) (fun _ i _ => n - (intOf i).toNat)
        case atStart => exact ⟨0, 0, rfl, rfl, by omega, by omega, Ev.refl _, hid rfl⟩
        case round =>
          obtain ⟨j, acc, rfl, rfl, hj, hacc, hX, hT⟩ := hrel
          obtain ⟨q0, q1, q2, q3, q4⟩ := cells5 (hX.heap HQ3.out)
          by_cases hjn : j < n
          · obtain ⟨b, off, x, rfl, hbl, hx, hd, hcc⟩ := hs.at_ (hE3.trans hX) hjn
            have e0 := hcc 0 _ rfl
            have e1 := hcc 1 _ rfl
            have e2 := hcc 2 _ rfl
            have e3 := hcc 3 _ rfl
            have e4 := hcc 4 _ rfl
            simp only [Nat.add_zero] at e0
            obtain ⟨v0, v1, v2⟩ := HV.out x (List.mem_of_getElem? hx)
            have hR := fun W (hE : Ev w3 W) => Right_c B2 f.rows.toNat d2 (M.nth f k) x v0 v1 (by omega) W (sl_own (by decide) (fun _ _ => rfl) (by omega) (HO3.out.ev hE))
            have hT2 := hT.out
            rw [hd, M.rbitsK] at hT2
            obtain ⟨p1, p2, p3⟩ := or_fact (a := acc) (i := j) hacc (by omega)
            clear hcc hd hx v0 v1 v2
            cases hh : M.holds x.ct (M.count (M.nth f k) x.wd x.fr x.to) with
            | false =>
              rw [hh] at hR hT2
              have HR := hid hR
              have HT2 := hid hT2
              clear hR hT2 hh p1 p2 p3
              go_wp2_with (go_at_call 74; ((with_reducible refine (HR.out _ hX).mono ?_); rintro e w4 ⟨rfl, hb4⟩))
              exact ⟨⟨j + 1, acc, rfl, by go_num, by omega, hacc, hX.trans hb4, hid (by have := HT2.out; simpa using this)⟩, by simp [intOf]; omega⟩
            | true =>
              rw [hh] at hR hT2
              have HR := hid hR
              have HT2 := hid (show M.rbitsK (M.nth f k) (f.ts.drop (j + 1)) (j + 1) (acc ||| 2 ^ j) = M.rbits f (M.nth f k) by simpa using hT2)
              clear hR hT2 hh
              generalize acc ||| 2 ^ j = acc2 at p2 p3 HT2
              go_wp2_with (go_at_call 74; ((with_reducible refine (HR.out _ hX).mono ?_); rintro e w4 ⟨rfl, hb4⟩))
              exact ⟨⟨j + 1, acc2, rfl, by go_num, by omega, p3, hX.trans hb4, HT2⟩, by simp [intOf]; omega⟩
          · have hT2 := hT.out
            rw [hs.done hjn, M.rbitsK] at hT2
            have HT2 := hid hT2
            have hxs := hX.size
            have hzs := hE3.size
            clear hT2
            go_wp2_with (at_builtin; refine wpList_append_own _ rfl (.tmp 40) (.tmp 42) 27 rfl (w.heap.size + 1) 3 i0 _ 1 8 Try.underlying27 hi0 hz0 hz1 hz2 rfl (by decide) _ ys.length (ys.flatMap ncs) rfl ((hown.ev (hG.trans hX)).alloc _) ⟨wr.heap.size, 0, none⟩ 1 1 [.int .i64 acc] rfl rfl (news_in (alloc1 wr _).1) (by simp [Value.oneCell']) (by unfold maxLen; omega) (by omega) (by simp; omega) ?_; intro v' w5 hown' hgrow _)
            have hE5 := Ev.grown ((hE3.trans hX).alloc _) hgrow (fun k e => by have := (hown.lt k e).1; omega)
            refine ⟨⟨k + 1, ys ++ [M.rbits f (M.nth f k)], by go_num, by omega, hE5, hid ?_, ?_, by simp; omega, hid ?_⟩, by simp [intOf]; omega⟩
            · exact (hgrow.block _ (by simp; omega) (fun e => by have := (hown.lt _ e.symm).1; omega)).trans ((Ev.alloc (Ev.refl _) _).heap (hX.heap HQ3.out))
            · rw [List.flatMap_append, List.length_append, ← HT2.out]
              exact hown'
            · have := HP2.out
              rw [List.append_assoc]
              simpa using this
    · have hkP : k = P := by omega
      subst hkP
      have hp2 := hp.out
      rw [Nat.sub_self, M.rallK, List.append_nil] at hp2
      obtain ⟨B, d, rfl, hsl⟩ := Sl.of_own (enc := ncs) (sz := 1) (by decide) (ncs_len _) (by omega) hown
      have HS := hid hsl
      have HP := hid hp2
      clear hsl hp2 hown
      go_wp2_with (go_at_call 65; ((with_reducible refine (HMANY.out _).mono ?_); rintro e w1 ⟨rfl, hb1⟩))
      go_ret
      exact ⟨⟨B, _, d, rfl, by rw [← HP.out]; exact HS.out.ev hb1⟩, hB.trans hb1⟩

end Go.Proofs.Ytcecmphdmpeibaa
