import Derived.Test.YtffbkbcjddigdaaA25
set_option linter.unusedSimpArgs false
set_option linter.unusedVariables false
namespace Go.Proofs.Ytffbkbcjddigdaa
open Go.RowKit Go.Shelf

section
variable {c : Nat} {P : Program} {ops : Array Oper} {Q : Exit → Act → World → Prop} {md : Region.Mode} {S T : World → Prop}

/-- As wpAnyR, but nothing is asked behind operation c. -/
def wpAnyK (c : Nat) (P : Program) (md : Region.Mode) (ops : Array Oper) (Q : Exit → Act → World → Prop) (S : World → Prop) : Nat → Array Bool → Act → World → Prop
 | 0, listed, a, w => Region.ready md ops listed = [] ∧ Q .normal a w
 | fuel + 1, listed, a, w =>
  (Region.ready md ops listed = [] → Q .normal a w) ∧
  ∀ i ∈ Region.ready md ops listed, wpOp P ops Q i (fun a' w' => (i ≠ c → S w') ∧ wpAnyK c P md ops Q S fuel (listed.setIfInBounds i true) a' w') a w

theorem wpAnyK_any : ∀ (fuel : Nat) (listed : Array Bool) (a : Act) (w : World), wpAnyK c P md ops Q S fuel listed a w → wpAny P md ops Q fuel listed a w
 | 0, _, _, _, h => h
 | fuel + 1, _, _, _, h => ⟨h.1, fun i hi => wpOp_mono (fun a' w' h' => wpAnyK_any fuel _ a' w' h'.2) (h.2 i hi)⟩

theorem wpAnyK_first {i : Nat} {oi : Oper} {v : Value} (hi : ops[i]? = some oi) (hsel : ∀ (j : Nat) (o : Oper) cs b, ops[j]? = some o → o.op ≠ .select cs b)
  (hQ : ∀ c a w, Q (.panic c) (a.put oi.dst v) w → Q (.panic c) a w)
  (hst : ∀ (j : Nat) (oj : Oper) (w' : World), ops[j]? = some oj → (∀ e ∈ oj.after, Region.binds md e = true → e.on ≠ i) → (j ≠ c → S w') → T w') (hTi : ∀ w, T w → (i ≠ c → S w)) :
  ∀ (fuel : Nat) (listed : Array Bool) (a : Act) (w : World),
   (∀ j oj, ops[j]? = some oj → j ≠ i → listed.getD j true = false → (∀ e ∈ oj.after, Region.binds md e = true → e.on ≠ i) → oi.apart ops oj = true) →
   i ∈ Region.ready md ops listed → YieldsIf P ops T oi v a → T w →
   wpAnyK c P md ops Q S fuel (listed.setIfInBounds i true) (a.put oi.dst v) w → wpAnyK c P md ops Q S (fuel + 1) listed a w := by
 intro fuel
 induction fuel with
 | zero =>
  intro listed a w _ hr hy hS H
  refine ⟨fun h => (by rw [h] at hr; cases hr), fun j hj => ?_⟩
  by_cases hji : j = i
  ·
   subst hji; exact YieldsIf.wpOp hi hy hS ⟨hTi w hS, H⟩
  ·
   have := ready_mono hj hji
   rw [H.1] at this
   cases this
 | succ fuel ih =>
  intro listed a w hfree hr hy hS H
  refine ⟨fun h => (by rw [h] at hr; cases hr), fun j hj => ?_⟩
  by_cases hji : j = i
  ·
   subst hji; exact YieldsIf.wpOp hi hy hS ⟨hTi w hS, H⟩
  ·
   have h1 := H.2 j (ready_mono hj hji)
   obtain ⟨hjun, oj, hoj, hall⟩ := mem_ready.1 hj
   have hnot : ∀ e ∈ oj.after, Region.binds md e = true → e.on ≠ i := fun e he hb heq => by
    have h1 := hall e he hb
    have h0 := (mem_ready.1 hr).1
    rw [heq] at h1
    rcases Nat.lt_or_ge i listed.size with h' | h'
    ·
     simp [h'] at h0 h1; rw [h0] at h1; cases h1
    ·
     simp [Array.getElem?_eq_none h'] at h1
   have h2 := wpOp_putIf hoj (hfree j oj hoj hji hjun hnot) (fun cs b => hsel i oi cs b hi) (fun cs b => hsel j oj cs b hoj) hQ hy h1
   have hfree' : ∀ k ok, ops[k]? = some ok → k ≠ i → (listed.setIfInBounds j true).getD k true = false →
     (∀ e ∈ ok.after, Region.binds md e = true → e.on ≠ i) → oi.apart ops ok = true := fun k ok hk hki hun hno => by
    refine hfree k ok hk hki ?_ hno
    by_cases hjk : j = k
    ·
     subst hjk; exact hjun
    ·
     rw [getD_set_ne true hjk] at hun; exact hun
   refine wpOp_mono (fun a' w' h3 => ⟨h3.2.1, ih (listed.setIfInBounds j true) a' w' hfree' (ready_mono hr (Ne.symm hji)) h3.1 (hst j oj w' hoj hnot h3.2.1) ?_⟩) h2
   rw [Array.setIfInBounds_comm _ _ hji]
   exact h3.2.2

/-- An operation for which operation c waits. -/
theorem wpAnyK_takeD {i : Nat} {oi oc : Oper} {v : Value} {fuel : Nat} {listed : Array Bool} {a : Act} {w : World} (d : Option Tmp) (hi : ops[i]? = some oi) (hd : oi.dst = d) (hc : ops[c]? = some oc) (hw : (oc.after.any fun e => Region.binds md e && e.on == i) = true)
  (hs : Region.noSelect ops = true) (hf : Region.free md ops listed i = true) (hr : (Region.ready md ops listed).contains i = true)
  (hQ : ∀ c a w, Q (.panic c) (a.put d v) w → Q (.panic c) a w) (hy : YieldsIf P ops S oi v a) (hS : S w)
  (h : wpAnyK c P md ops Q S fuel (listed.setIfInBounds i true) (a.put d v) w) : wpAnyK c P md ops Q S (fuel + 1) listed a w := by
 subst hd
 refine wpAnyK_first (T := S) hi (Region.noSelect_spec hs) hQ (fun j oj w' hj hno hS' => hS' ?_) (fun w h _ => h) fuel listed a w (Region.free_spec hi hf) (by simpa using hr) hy hS h
 rintro rfl
 rw [hc] at hj
 cases hj
 obtain ⟨e, he, hb⟩ := Array.any_eq_true'.1 hw
 simp only [Bool.and_eq_true, beq_iff_eq] at hb
 exact hno e he hb.1 hb.2

theorem wpAnyK_one {i : Nat} {o : Oper} {fuel : Nat} {listed : Array Bool} {a : Act} {w : World} (ho : ops[i]? = some o) (hr : Region.ready md ops listed = [i]) (hw : Region.wanted o (yielded ops a.tmps) = true) (hic : i ≠ c)
  (h : ∀ K : Act → World → Prop, Hid (∀ a' w', S w' → (S w' → wpAnyK c P md ops Q S fuel (listed.setIfInBounds i true) a' w') → K a' w') → o.wp P a w K Q) : wpAnyK c P md ops Q S (fuel + 1) listed a w := by
 refine ⟨fun h0 => (by rw [hr] at h0; cases h0), fun j hj => ?_⟩
 rw [hr] at hj
 obtain rfl : j = i := by simpa using hj
 unfold wpOp
 rw [ho]
 simp only [hw, if_true]
 exact .inl (h _ (fun a' w' hS hk => ⟨fun _ => hS, hk hS⟩))

theorem wpAnyK_last {o : Oper} {fuel : Nat} {listed : Array Bool} {a : Act} {w : World} (ho : ops[c]? = some o) (hr : Region.ready md ops listed = [c]) (hw : Region.wanted o (yielded ops a.tmps) = true)
  (h : ∀ K : Act → World → Prop, Hid (∀ a' w', wpAnyK c P md ops Q S fuel (listed.setIfInBounds c true) a' w' → K a' w') → o.wp P a w K Q) : wpAnyK c P md ops Q S (fuel + 1) listed a w := by
 refine ⟨fun h0 => (by rw [hr] at h0; cases h0), fun j hj => ?_⟩
 rw [hr] at hj
 obtain rfl : j = c := by simpa using hj
 unfold wpOp
 rw [ho]
 simp only [hw, if_true]
 exact .inl (h _ (fun a' w' hk => ⟨fun hn => absurd rfl hn, hk⟩))

theorem wpAnyK_done {listed : Array Bool} {a : Act} {w : World} (hr : Region.ready md ops listed = []) (h : Q .normal a w) : ∀ fuel, wpAnyK c P md ops Q S fuel listed a w
 | 0 => ⟨hr, h⟩
 | _ + 1 => ⟨fun _ => h, by rw [hr]; simp⟩

theorem wp_region_K {id : Nat} {a : Act} {w : World} (hm : P.follows .mixedOrders = true) (hS : S w.drew)
  (h : S w.drew → wpAnyK c P .any ops Q S ops.size (Array.replicate ops.size false) a w.drew) : (Code.region id ops true).wp P Q a w :=
 wp_region_any hm (wpAnyK_any _ _ _ _ (h hS))

theorem wpAnyK_skip {i : Nat} {oc : Oper} {fuel : Nat} {listed : Array Bool} {a : Act} {w : World} (d : Option Tmp) (hi : (ops[i]?).map Oper.dst = some d) (hc : ops[c]? = some oc) (hw' : (oc.after.any fun e => Region.binds md e && e.on == i) = true)
  (hs : Region.noSelect ops = true) (hf : Region.free md ops listed i = true) (hr : (Region.ready md ops listed).contains i = true)
  (hQ : ∀ c a w, Q (.panic c) (a.put d undef) w → Q (.panic c) a w) (hw : (match ops[i]? with | some o => Region.wanted o (yielded ops a.tmps) | none => true) = false) (hS : S w)
  (h : wpAnyK c P md ops Q S fuel (listed.setIfInBounds i true) (a.put d undef) w) : wpAnyK c P md ops Q S (fuel + 1) listed a w := by
 cases ho : ops[i]? with
 | none => rw [ho] at hi; cases hi
 | some o =>
  rw [ho] at hi hw
  exact wpAnyK_takeD d ho (by simpa using hi) hc hw' hs hf hr hQ (Or.inr ⟨hw, rfl⟩) hS h

theorem wpAnyH_takeD {i : Nat} {oi : Oper} {v : Value} {fuel : Nat} {listed : Array Bool} {a : Act} {w : World} (d : Option Tmp) (hi : ops[i]? = some oi) (hd : oi.dst = d)
  (hs : Region.noSelect ops = true) (hf : Region.free md ops listed i = true) (hr : (Region.ready md ops listed).contains i = true)
  (hQ : ∀ c a w, Q (.panic c) (a.put d v) w → Q (.panic c) a w) (hy : YieldsIf P ops S oi v a) (hS : S w)
  (h : wpAnyH P md ops Q S fuel (listed.setIfInBounds i true) (a.put d v) w) : wpAnyH P md ops Q S (fuel + 1) listed a w := by
 subst hd
 exact wpAnyH_take hi hs hf hr hQ hy hS h
theorem wpAnyH_skip {i : Nat} {fuel : Nat} {listed : Array Bool} {a : Act} {w : World} (d : Option Tmp) (hi : (ops[i]?).map Oper.dst = some d)
  (hs : Region.noSelect ops = true) (hf : Region.free md ops listed i = true) (hr : (Region.ready md ops listed).contains i = true)
  (hQ : ∀ c a w, Q (.panic c) (a.put d undef) w → Q (.panic c) a w) (hw : (match ops[i]? with | some o => Region.wanted o (yielded ops a.tmps) | none => true) = false) (hS : S w)
  (h : wpAnyH P md ops Q S fuel (listed.setIfInBounds i true) (a.put d undef) w) : wpAnyH P md ops Q S (fuel + 1) listed a w := by
 cases ho : ops[i]? with
 | none => rw [ho] at hi; cases hi
 | some o =>
  rw [ho] at hi hw
  exact wpAnyH_takeD d ho (by simpa using hi) hs hf hr hQ (Or.inr ⟨hw, rfl⟩) hS h
theorem wpAnyH_one {i : Nat} {o : Oper} {fuel : Nat} {listed : Array Bool} {a : Act} {w : World} (ho : ops[i]? = some o) (hr : Region.ready md ops listed = [i]) (hw : Region.wanted o (yielded ops a.tmps) = true)
  (h : ∀ K : Act → World → Prop, Hid (∀ a' w', S w' → (S w' → wpAnyH P md ops Q S fuel (listed.setIfInBounds i true) a' w') → K a' w') → o.wp P a w K Q) : wpAnyH P md ops Q S (fuel + 1) listed a w := by
 refine ⟨fun h0 => (by rw [hr] at h0; cases h0), fun j hj => ?_⟩
 rw [hr] at hj
 obtain rfl : j = i := by simpa using hj
 unfold wpOp
 rw [ho]
 simp only [hw, if_true]
 exact .inl (h _ (fun a' w' hS hk => ⟨hS, hk hS⟩))
theorem wpAnyH_two {i j : Nat} {oi oj : Oper} {fuel : Nat} {listed : Array Bool} {a : Act} {w : World} (hoi : ops[i]? = some oi) (hoj : ops[j]? = some oj) (hr : Region.ready md ops listed = [i, j]) (hwi : Region.wanted oi (yielded ops a.tmps) = true) (hwj : Region.wanted oj (yielded ops a.tmps) = true)
  (h1 : ∀ K : Act → World → Prop, Hid (∀ a' w', S w' → (S w' → wpAnyH P md ops Q S fuel (listed.setIfInBounds i true) a' w') → K a' w') → oi.wp P a w K Q)
  (h2 : ∀ K : Act → World → Prop, Hid (∀ a' w', S w' → (S w' → wpAnyH P md ops Q S fuel (listed.setIfInBounds j true) a' w') → K a' w') → oj.wp P a w K Q) : wpAnyH P md ops Q S (fuel + 1) listed a w := by
 refine ⟨fun h0 => (by rw [hr] at h0; cases h0), fun k hk => ?_⟩
 rw [hr] at hk
 rcases List.mem_cons.1 hk with rfl | hk
 ·
  unfold wpOp
  rw [hoi]
  simp only [hwi, if_true]
  exact .inl (h1 _ (fun a' w' hS hk => ⟨hS, hk hS⟩))
 ·
  obtain rfl : k = j := by simpa using hk
  unfold wpOp
  rw [hoj]
  simp only [hwj, if_true]
  exact .inl (h2 _ (fun a' w' hS hk => ⟨hS, hk hS⟩))
end


theorem sA {α : Type} (l : List α) (i : Nat) (a : α) : l.toArray.setIfInBounds i a = (l.set i a).toArray := List.setIfInBounds_toArray ..
theorem sB {α : Type} (x a : α) (l : List α) : (x :: l).set 0 a = a :: l := List.set_cons_zero ..
theorem sC {α : Type} (x a : α) (l : List α) (i : Nat) : (x :: l).set (i + 1) a = x :: l.set i a := List.set_cons_succ ..
/-- wpAnyH_takeD, whose conditions are shown by themselves. -/
theorem tkH {P : Program} {md : Region.Mode} {ops : Array Oper} {Q : Exit → Act → World → Prop} {S : World → Prop} {oi : Oper} {v : Value} {fuel : Nat} {listed : Array Bool} {a : Act} {w : World} (i : Nat) (d : Option Tmp) (h : wpAnyH P md ops Q S fuel (listed.setIfInBounds i true) (a.put d v) w) (hi : ops[i]? = some oi := by rfl) (hd : oi.dst = d := by rfl) (hs : Region.noSelect ops = true := by kernel_rfl) (hf : Region.free md ops listed i = true := by kernel_rfl) (hr : (Region.ready md ops listed).contains i = true := by kernel_rfl)
  (hQ : ∀ c a w, Q (.panic c) (a.put d v) w → Q (.panic c) a w := by exact fun _ _ _ h => h) (hw : Region.wanted oi (yielded ops a.tmps) = true := by rfl) (hy : ∀ w, S w → (execOp a.eval oi).run P w = .ok (.value v) w := by (intro w hSw; (try dsimp only at hSw); go_simp; with_reducible rfl)) (hS : S w := by assumption) : wpAnyH P md ops Q S (fuel + 1) listed a w :=
 wpAnyH_takeD d hi hd hs hf hr hQ (Or.inl ⟨hw, hy⟩) hS h

end Go.Proofs.Ytffbkbcjddigdaa

set_option linter.unusedSimpArgs false
set_option linter.unusedVariables false
namespace Go.Proofs.Ytffbkbcjddigdaa
open Go.RowKit Go.Shelf

def M.begin (f : M.Cf) (named : Bool) : Int := if M.check f ≠ 0 then M.check f else if named = false then 2 else if M.truths f = [] then 11 else 0
theorem M.check0 {f : M.Cf} (h : M.check f = 0) : f.last ≤ 9 ∧ f.base.length ≤ 3 ∧ f.looks.length ≤ 5 ∧ M.valid f = true ∧ M.tooMany (M.ranges f) 1 = false := by
 unfold M.check at h
 split at h
 ·
  cases h
 ·
  rename_i h1
  split at h
  ·
   cases h
  ·
   rename_i h2
   split at h
   ·
    cases h
   ·
    rename_i h3
    exact ⟨by omega, by omega, by omega, by simpa using h2, by simpa using h3⟩
theorem M.check_bd (f : M.Cf) : M.check f = 0 ∨ M.check f = 1 ∨ M.check f = 3 := by
 unfold M.check
 split
 ·
  exact .inr (.inr rfl)
 ·
  split
  ·
   exact .inr (.inl rfl)
  ·
   split
   ·
    exact .inr (.inr rfl)
   ·
    exact .inl rfl
theorem open_c (f : M.Cf) (Ag Aw Ab Ac Al : Option Addr) (ng cg nw cw nb cb nc cc nl cl : Nat) (h0 : M.check f = 0) (w : World) (hs : CS w w.heap.size f Ag Aw Ab Ac Al ng cg nw cw nb cb nc cc nl cl) :
  Calls Try.prog 69 #[.agg #[.int .i64 f.last, .slice Ag ng cg, .slice Aw nw cw, .slice Ab nb cb, .slice Ac nc cc, .int .i64 f.ripe, .int .i64 f.late, .int .i64 f.trod, .slice Al nl cl]] w fun e w' => (∃ At As nt ct ns cs p mb, e = .returned (.pointer (some ⟨p, 0, none⟩)) ∧ Wc w' f Ag Aw Ab Ac Al ng cg nw cw nb cb nc cc nl cl At As nt ct ns cs p mb (M.truths f) (M.stands f) ∧ w.heap.size ≤ mb) ∧ Ev w w' :=
 callsIn_wide.1 (open_in f Ag Aw Ab Ac Al ng cg nw cw nb cb nc cc nl cl (M.check0 h0).2.2.2.1 (M.check0 h0).1 (M.check0 h0).2.2.2.2 (by have := hs.l.len; have := (M.check0 h0).2.2.1; omega) w hs)

set_option maxRecDepth 100000 in
set_option maxHeartbeats 2000000 in
theorem begin_err (f : M.Cf) (Ag Aw Ab Ac Al : Option Addr) (ng cg nw cw nb cb nc cc nl cl : Nat) (hl0 : -9223372036854775808 ≤ f.last) (named : Bool) (h0 : M.begin f named ≠ 0) (w : World) (hs : CS w w.heap.size f Ag Aw Ab Ac Al ng cg nw cw nb cb nc cc nl cl) :
  Calls Try.prog 64 #[.agg #[.int .i64 f.last, .slice Ag ng cg, .slice Aw nw cw, .slice Ab nb cb, .slice Ac nc cc, .int .i64 f.ripe, .int .i64 f.late, .int .i64 f.trod, .slice Al nl cl], .bool named] w fun e w' => e = .returned (.tuple #[.pointer none, .int .i64 (M.begin f named)]) ∧ Ev w w' := by
 have hck := fun W hE => check_c f Ag Aw Ab Ac Al ng cg nw cw nb cb nc cc nl cl hl0 W (hs.ev (w' := W) hE)
 have hop := fun (h : M.check f = 0) W hE => open_c f Ag Aw Ab Ac Al ng cg nw cw nb cb nc cc nl cl h W (hs.ev (w' := W) hE)
 have hbd := M.check_bd f
 by_cases hc : M.check f = 0
 ·
  have HOP := hid (hop hc)
  have HBG : M.begin f named = if named = false then 2 else if M.truths f = [] then 11 else 0 := by unfold M.begin; rw [if_neg (by simp [hc])]
  rw [HBG] at h0 ⊢
  rw [hc] at hck
  have HCK := hid hck
  clear hck hop hs hbd hc HBG
  cases named with
  | false =>
   go_enter Try.func64, Try.ntmps64
   go_wp2_with (first | (go_at_call 21; ((with_reducible refine (HCK.out _ (Ev.alloc (Ev.refl _) _)).mono ?_); rintro e w1 ⟨rfl, hb1⟩; obtain ⟨y0, y1, y2, y3, y4, y5, y6, y7, y8⟩ := cells9 (hb1.heap (alloc1 w (.cells #[.int .i64 f.last, .slice Ag ng cg, .slice Aw nw cw, .slice Ab nb cb, .slice Ac nc cc, .int .i64 f.ripe, .int .i64 f.late, .int .i64 f.trod, .slice Al nl cl] 38)).1); have hG : Ev w w1 := Ev.trans (Ev.alloc (Ev.refl _) _) hb1)))
   go_ret2
   exact ⟨rfl, hG⟩
  | true =>
   have ht : M.truths f = [] := by
    by_cases ht : M.truths f = []
    ·
     exact ht
    ·
     exact absurd (by rw [if_neg (by simp), if_neg ht]) h0
   have HT := hid ht
   rw [if_neg (by simp), if_pos ht]
   clear ht h0
   go_enter Try.func64, Try.ntmps64
   go_upto_region 7 with (first | (go_at_call 21; ((with_reducible refine (HCK.out _ (Ev.alloc (Ev.refl _) _)).mono ?_); rintro e w1 ⟨rfl, hb1⟩; obtain ⟨y0, y1, y2, y3, y4, y5, y6, y7, y8⟩ := cells9 (hb1.heap (alloc1 w (.cells #[.int .i64 f.last, .slice Ag ng cg, .slice Aw nw cw, .slice Ab nb cb, .slice Ac nc cc, .int .i64 f.ripe, .int .i64 f.late, .int .i64 f.trod, .slice Al nl cl] 38)).1); have hG : Ev w w1 := Ev.trans (Ev.alloc (Ev.refl _) _) hb1)) | (go_at_call 69; ((with_reducible refine (HOP.out _ hG).mono ?_); rintro e w2 ⟨⟨At, As, nt, ct, ns, cs, p, mb, rfl, hwc, hmb⟩, hb2⟩; obtain ⟨k0, k1, k2, k3, k4, k5, k6, k7, k8, k9, k10, k11⟩ := cells12 hwc.hd; have hG2 := hG.trans hb2; have HWC := hid hwc; clear hwc)))
   have hnt : nt = 0 := by
    obtain ⟨vs, hv, hr⟩ := HWC.out.tr
    rw [HT.out] at hr
    rw [← hv.len, hr.1]; rfl
   subst hnt
   have e0 : (((0 : Nat) : Int) == 0) = true := rfl
   go_wp2
   go_ret2
   exact ⟨rfl, hG2⟩
 ·
  have HBG : M.begin f named = M.check f := by unfold M.begin; rw [if_pos hc]
  rw [HBG]
  generalize M.check f = ck at hck hc hbd
  have hne : (ck != 0) = true := by simpa using hc
  have HCK := hid hck
  clear hck hop hs hbd hc HBG h0
  go_enter Try.func64, Try.ntmps64
  go_wp2_with (first | (go_at_call 21; ((with_reducible refine (HCK.out _ (Ev.alloc (Ev.refl _) _)).mono ?_); rintro e w1 ⟨rfl, hb1⟩; obtain ⟨y0, y1, y2, y3, y4, y5, y6, y7, y8⟩ := cells9 (hb1.heap (alloc1 w (.cells #[.int .i64 f.last, .slice Ag ng cg, .slice Aw nw cw, .slice Ab nb cb, .slice Ac nc cc, .int .i64 f.ripe, .int .i64 f.late, .int .i64 f.trod, .slice Al nl cl] 38)).1); have hG : Ev w w1 := Ev.trans (Ev.alloc (Ev.refl _) _) hb1)))
  go_ret2
  exact ⟨rfl, hG⟩

set_option maxRecDepth 100000 in
set_option maxHeartbeats 2000000 in
theorem begin_ok (f : M.Cf) (Ag Aw Ab Ac Al : Option Addr) (ng cg nw cw nb cb nc cc nl cl : Nat) (hl0 : -9223372036854775808 ≤ f.last) (named : Bool) (h0 : M.begin f named = 0) (w : World) (hs : CS w w.heap.size f Ag Aw Ab Ac Al ng cg nw cw nb cb nc cc nl cl) :
  Calls Try.prog 64 #[.agg #[.int .i64 f.last, .slice Ag ng cg, .slice Aw nw cw, .slice Ab nb cb, .slice Ac nc cc, .int .i64 f.ripe, .int .i64 f.late, .int .i64 f.trod, .slice Al nl cl], .bool named] w fun e w' => (∃ At As nt ct ns cs p mb, e = .returned (.tuple #[.pointer (some ⟨p, 0, none⟩), .int .i64 0]) ∧ Wc w' f Ag Aw Ab Ac Al ng cg nw cw nb cb nc cc nl cl At As nt ct ns cs p mb (M.truths f) (M.stands f) ∧ w.heap.size ≤ mb) ∧ Ev w w' := by
 have hc : M.check f = 0 := by
  by_cases hc : M.check f = 0
  ·
   exact hc
  ·
   unfold M.begin at h0; rw [if_pos hc] at h0; exact h0
 have HBG : M.begin f named = if named = false then 2 else if M.truths f = [] then 11 else 0 := by unfold M.begin; rw [if_neg (by simp [hc])]
 rw [HBG] at h0
 have hnm : named = true := by
  cases named with
  | true => rfl
  | false => simp at h0
 subst hnm
 have ht : ¬ M.truths f = [] := fun ht => by rw [if_neg (by simp), if_pos ht] at h0; simp at h0
 have hck := fun W hE => check_c f Ag Aw Ab Ac Al ng cg nw cw nb cb nc cc nl cl hl0 W (hs.ev (w' := W) hE)
 have HOP := hid (fun W hE => open_c f Ag Aw Ab Ac Al ng cg nw cw nb cb nc cc nl cl hc W (hs.ev (w' := W) hE))
 rw [hc] at hck
 have HCK := hid hck
 have HT := hid ht
 clear hck hs hc HBG h0 ht
 go_enter Try.func64, Try.ntmps64
 go_upto_region 7 with (first | (go_at_call 21; ((with_reducible refine (HCK.out _ (Ev.alloc (Ev.refl _) _)).mono ?_); rintro e w1 ⟨rfl, hb1⟩; obtain ⟨y0, y1, y2, y3, y4, y5, y6, y7, y8⟩ := cells9 (hb1.heap (alloc1 w (.cells #[.int .i64 f.last, .slice Ag ng cg, .slice Aw nw cw, .slice Ab nb cb, .slice Ac nc cc, .int .i64 f.ripe, .int .i64 f.late, .int .i64 f.trod, .slice Al nl cl] 38)).1); have hG : Ev w w1 := Ev.trans (Ev.alloc (Ev.refl _) _) hb1)) | (go_at_call 69; ((with_reducible refine (HOP.out _ hG).mono ?_); rintro e w2 ⟨⟨At, As, nt, ct, ns, cs, p, mb, rfl, hwc, hmb⟩, hb2⟩; obtain ⟨k0, k1, k2, k3, k4, k5, k6, k7, k8, k9, k10, k11⟩ := cells12 hwc.hd; have hG2 := hG.trans hb2; have HWC := hid hwc; clear hwc)))
 have hnt : 0 < nt := by
  obtain ⟨vs, hv, hr⟩ := HWC.out.tr
  rw [← hv.len, hr.1]
  exact List.length_pos_iff.2 HT.out
 have e0 : ((nt : Int) == 0) = false := by simpa using (show ¬ nt = 0 by omega)
 go_wp2
 go_ret2
 exact ⟨⟨At, As, nt, ct, ns, cs, p, mb, rfl, HWC.out, by have := hG.size; omega⟩, hG2⟩

set_option maxRecDepth 100000 in
set_option maxHeartbeats 1000000 in
theorem idxfnW_c (A : Option Addr) (n c g : Nat) (caps : List Value) (p : List Int → Bool) (xs : List (List Int)) (h5 : ∀ x ∈ xs, x.length = 10) (w : World) (hs : Sl scs 10 w w.heap.size A n c xs)
  (hcf : ∀ args w, (callFunc g args).run Try.prog w = .ok (.enter g args) w)
  (hG : ∀ x W, x.length = 10 → Ev w W → Calls Try.prog g (sv x :: caps).toArray W fun e w' => e = .returned (.bool (p x)) ∧ Ev W w') :
  Calls Try.prog 120 #[.slice A n c, .func (.func g) #[] caps.toArray] w fun e w' => e = .returned (.int .i64 (M.idxg p xs 0)) ∧ Ev w w' := by
 have hsm := hs.small
 have HG := hid hG
 clear hG
 go_enter Try.func120, Try.ntmps120
 go_wp2
 go_loopw [8] (fun i wr => ∃ k : Nat, i = .int .i64 k ∧ k ≤ n ∧ Ev w wr ∧ Hid (M.idxg p (xs.drop k) k = M.idxg p xs 0)) (fun i _ => n - (intOf i).toNat)
 case atStart => exact ⟨0, rfl, by omega, Ev.refl _, hid (by simp)⟩
 case round =>
  obtain ⟨k, rfl, hk, hB, hp⟩ := hrel
  by_cases hlt : k < n
  ·
   obtain ⟨b, off, x, rfl, hb, hx, hd, hcc⟩ := hs.at_ hB hlt
   have hx5 := h5 x (List.mem_of_getElem? hx)
   have hcl := HG.out x _ hx5 hB
   obtain ⟨b0, b1, b2, b3, b4, b5, b6, b7, b8, b9, hxx⟩ := list10 hx5
   subst hxx
   have e0 := hcc 0 _ rfl
   have e1 := hcc 1 _ rfl
   have e2 := hcc 2 _ rfl
   have e3 := hcc 3 _ rfl
   have e4 := hcc 4 _ rfl
   have e5 := hcc 5 _ rfl
   have e6 := hcc 6 _ rfl
   have e7 := hcc 7 _ rfl
   have e8 := hcc 8 _ rfl
   have e9 := hcc 9 _ rfl
   simp only [Nat.add_zero] at e0
   have H := hid hd
   have HC := hid hcl
   clear hd hx hcc hcl
   by_cases hv : p [b0, b1, b2, b3, b4, b5, b6, b7, b8, b9] = true
   ·
    go_wp2_with fail
    refine HC.out.mono ?_
    rintro e w1 ⟨rfl, hb1⟩
    rw [hv]
    go_wp2
    go_ret
    exact ⟨ret_int (by rw [← hp.out, H.out]; simp only [M.idxg]; rw [if_pos hv]), hB.trans hb1⟩
   ·
    have hv' : p [b0, b1, b2, b3, b4, b5, b6, b7, b8, b9] = false := by simpa using hv
    go_wp2_with fail
    refine HC.out.mono ?_
    rintro e w1 ⟨rfl, hb1⟩
    rw [hv']
    go_wp2
    refine ⟨⟨k + 1, by go_num, by omega, hB.trans hb1, hid ?_⟩, by simp [intOf]; omega⟩
    rw [← hp.out, H.out]; simp only [M.idxg]; rw [if_neg hv]; simp
  ·
   have H := hid (hs.done hlt)
   go_wp2
   go_ret
   exact ⟨ret_int (by rw [← hp.out, H.out]; rfl), hB⟩

set_option maxRecDepth 100000 in
set_option maxHeartbeats 1000000 in
theorem confnW_c (A : Option Addr) (n c g : Nat) (caps : List Value) (p : List Int → Bool) (xs : List (List Int)) (h5 : ∀ x ∈ xs, x.length = 10) (w : World) (hs : Sl scs 10 w w.heap.size A n c xs)
  (hcf : ∀ args w, (callFunc g args).run Try.prog w = .ok (.enter g args) w)
  (hG : ∀ x W, x.length = 10 → Ev w W → Calls Try.prog g (sv x :: caps).toArray W fun e w' => e = .returned (.bool (p x)) ∧ Ev W w') :
  Calls Try.prog 105 #[.slice A n c, .func (.func g) #[] caps.toArray] w fun e w' => e = .returned (.bool (xs.any p)) ∧ Ev w w' := by
 have HC := hid (idxfnW_c A n c g caps p xs h5 w hs hcf hG)
 have HA := hid (M.idxg_any p xs 0 (by omega))
 clear hG
 go_enter Try.func105, Try.ntmps105
 go_wp2_with (go_at_call 120; with_reducible refine HC.out.mono ?_; rintro e w1 ⟨rfl, hb1⟩)
 go_ret
 exact ⟨ret_bool HA.out, hb1⟩

set_option maxRecDepth 100000 in
set_option maxHeartbeats 2000000 in
theorem fit1_c (g : Nat) (L : Option Addr) (n c : Nat) (ls : List M.Lk) (hls : ∀ l ∈ ls, 0 ≤ l.wk ∧ l.wk ≤ 9) (x : List Int) (hx : x.length = 10) (w : World) (hc : w.cell? ⟨g, 0, none⟩ = some (.slice L n c)) (hs : Sl lkc 3 w w.heap.size L n c ls) :
  Calls Try.prog 106 #[sv x, .pointer (some ⟨g, 0, none⟩)] w fun e w' => e = .returned (.bool (ls.all (M.shows x))) ∧ Ev w w' := by
 obtain ⟨a0, a1, a2, a3, a4, a5, a6, a7, a8, a9, rfl⟩ := list10 hx
 have HSA := hid (fun W (hE : Ev w W) => showsAll_c a0 a1 a2 a3 a4 a5 a6 a7 a8 a9 L n c ls hls W (hs.ev hE))
 have hgl := cell_lt hc
 generalize ls.all (M.shows [a0, a1, a2, a3, a4, a5, a6, a7, a8, a9]) = r at HSA
 simp only [sv, List.map_cons, List.map_nil]
 clear hs hls hx
 go_enter Try.func106, Try.ntmps106
 go_wp2_with (go_at_call 59; with_reducible refine (HSA.out _ (Ev.alloc (Ev.refl _) _)).mono ?_; rintro e w1 ⟨rfl, hb1⟩)
 go_ret
 exact ⟨rfl, Ev.trans (Ev.alloc (Ev.refl _) _) hb1⟩

/-- Looks are all right in some truth. -/
def M.fit (f : M.Cf) (ls : List M.Lk) : Bool := (M.stands f).any fun x => ls.all (M.shows x)

set_option maxRecDepth 100000 in
set_option maxHeartbeats 2000000 in
theorem fit_c (f : M.Cf) (Ag Aw Ab Ac Al : Option Addr) (ng cg nw cw nb cb nc cc nl cl : Nat) (At As : Option Addr) (nt ct ns cs p mb : Nat) (ts : List M.Tr) (L : Option Addr) (n c : Nat) (ls : List M.Lk) (hls : ∀ l ∈ ls, 0 ≤ l.wk ∧ l.wk ≤ 9) (w : World) (hw : Wc w f Ag Aw Ab Ac Al ng cg nw cw nb cb nc cc nl cl At As nt ct ns cs p mb ts (M.stands f)) (hs : Sl lkc 3 w w.heap.size L n c ls) :
  Calls Try.prog 74 #[.pointer (some ⟨p, 0, none⟩), .slice L n c] w fun e w' => e = .returned (.bool (M.fit f ls)) ∧ Ev w w' := by
 have hal := alloc1 w (.cells #[.slice L n c] 36)
 have hE0 : Ev w (w.alloc (.cells #[.slice L n c] 36)) := Ev.alloc (Ev.refl _) _
 obtain ⟨k0, k1, k2, k3, k4, k5, k6, k7, k8, k9, k10, k11⟩ := cells12 hw.hd
 have hpl := heap_lt hw.hd
 have hc0 := cell_in hal.1 0
 simp only [List.getElem?_toArray, List.getElem?_cons_zero] at hc0
 have HCF := hid (confnW_c As ns cs 106 [.pointer (some ⟨w.heap.size, 0, none⟩)] (fun x => ls.all (M.shows x)) (M.stands f) hw.s10 _ (hw.st.ev hE0) (fun args w => Try.call106 args w)
  (fun x W hx hE => fit1_c w.heap.size L n c ls hls x hx W ((hE.cells.1 _ _ (heap_lt hal.1)).trans hc0) (hs.ev (hE0.trans hE))))
 clear hal hc0 hE0
 go_enter Try.func74, Try.ntmps74
 go_wp2_with (go_at_call 105; with_reducible refine HCF.out.mono ?_; rintro e w1 ⟨rfl, hb1⟩)
 go_ret
 exact ⟨rfl, Ev.trans (Ev.alloc (Ev.refl _) _) hb1⟩

end Go.Proofs.Ytffbkbcjddigdaa

set_option linter.unusedSimpArgs false
set_option linter.unusedVariables false
namespace Go.Proofs.Ytffbkbcjddigdaa
open Go.RowKit Go.Shelf

/-- What is left of a list without the things at some places; the first has the number k. -/
def M.woK {α : Type} (ps : List Int) : List α → Nat → List α
 | [], _ => []
 | x :: r, k => if (k : Int) ∈ ps then M.woK ps r (k + 1) else x :: M.woK ps r (k + 1)
def M.without {α : Type} (ls : List α) (ps : List Int) : List α := M.woK ps ls 0
theorem M.woK_mem {α : Type} (ps : List Int) : ∀ (ls : List α) (k : Nat) (x : α), x ∈ M.woK ps ls k → x ∈ ls
 | [], _, _, h => h
 | y :: r, k, x, h => by
  unfold M.woK at h
  split at h
  ·
   exact List.mem_cons_of_mem _ (M.woK_mem ps r _ x h)
  ·
   rcases List.mem_cons.1 h with rfl | h
   ·
    simp
   ·
    exact List.mem_cons_of_mem _ (M.woK_mem ps r _ x h)
theorem M.woK_len {α : Type} (ps : List Int) : ∀ (ls : List α) (k : Nat), (M.woK ps ls k).length ≤ ls.length
 | [], _ => Nat.le_refl _
 | y :: r, k => by
  unfold M.woK
  have := M.woK_len ps r (k + 1)
  split <;> simp <;> omega
theorem infoLk : (Try.prog.info? 73).map (fun i => (i.zero, i.size, i.bytes)) = some (some (.agg #[.int .i64 0, .int .i64 0, .int .i64 0]), 3, 24) := by kernel_rfl
theorem lkc_len (ys : List M.Lk) : ∀ y ∈ ys, (lkc y).length = 3 := fun _ _ => rfl

set_option maxRecDepth 100000 in
set_option maxHeartbeats 4000000 in
theorem without_c (L P : Option Addr) (n c pn pc : Nat) (ls : List M.Lk) (ps : List Int) (hn : n ≤ 1000) (w : World) (hs : Sl lkc 3 w w.heap.size L n c ls) (hp : Sl ics 1 w w.heap.size P pn pc ps) :
  Calls Try.prog 98 #[.slice L n c, .slice P pn pc] w fun e w' => (∃ B m d, e = .returned (.slice B m d) ∧ Sl lkc 3 w' w'.heap.size B m d (M.without ls ps)) ∧ Ev w w' := by
 obtain ⟨i0, hi0, hz0, hz1, hz2⟩ := info_parts infoLk
 have hsm := hs.small
 have HCN := hid (fun (v : Int) W (hE : Ev w W) => contains_c P pn pc ps v W (hp.ev hE))
 clear hp
 go_enter Try.func98, Try.ntmps98
 go_wp2
 go_loopw [5, 10] (fun v i wr => ∃ k : Nat, ∃ V : Option Addr, ∃ m d : Nat, ∃ ac : List M.Lk, v = .slice V m d ∧ i = .int .i64 k ∧ k ≤ n ∧ m ≤ k ∧ Ev w wr ∧ wr.ownsRow w.heap.size 73 3 (.slice V m d) m (ac.flatMap lkc) ∧ Hid (ac ++ M.woK ps (ls.drop k) k = M.without ls ps)) (fun _ i _ => n - (intOf i).toNat)
 case atStart => exact ⟨0, none, 0, 0, [], rfl, rfl, by omega, by omega, Ev.refl _, World.ownsRow_nil _ _ _ _, hid rfl⟩
 case round =>
  obtain ⟨k, V, m, d, ac, rfl, rfl, hk, hm, hB, hown, hall⟩ := hrel
  have hBs := hB.size
  by_cases hlt : k < n
  ·
   obtain ⟨b, off, x, rfl, hb, hx, hd, hcc⟩ := hs.at_ hB hlt
   have e0 := hcc 0 _ rfl
   have e1 := hcc 1 _ rfl
   have e2 := hcc 2 _ rfl
   simp only [Nat.add_zero] at e0
   have hcap := hs.cap
   have HA := hid (show ac ++ (if (k : Int) ∈ ps then M.woK ps (ls.drop (k + 1)) (k + 1) else x :: M.woK ps (ls.drop (k + 1)) (k + 1)) = M.without ls ps by rw [← hall.out, hd]; rfl)
   have HCK := hid (HCN.out (k : Int))
   have HOW := hid hown
   have hE2 : Ev w (wr.alloc (.cells #[.int .i64 x.wk, .int .i64 x.ct.lo, .int .i64 x.ct.hi] 73)) := Ev.alloc hB _
   have k0 : (0 : Int) ≤ k := by omega
   clear hx hd hcc hown hall
   cases hin : decide ((k : Int) ∈ ps) with
   | true =>
    have hin' : (k : Int) ∈ ps := of_decide_eq_true hin
    have HC := hid (fun W hE => by have := HCK.out W hE; rw [hin] at this; exact this)
    have HA2 := hid (by have := HA.out; rw [if_pos hin'] at this; exact this)
    clear hin hin'
    go_wp2_with (go_at_call 88; with_reducible refine (HC.out _ hE2).mono ?_; rintro e w1 ⟨rfl, hb1⟩)
    exact ⟨⟨k + 1, V, m, d, ac, rfl, by go_num, by omega, by omega, hE2.trans hb1, (HOW.out.ev (Ev.alloc (Ev.refl _) _)).ev hb1, HA2⟩, by simp [intOf]; omega⟩
   | false =>
    have hin' : ¬ (k : Int) ∈ ps := of_decide_eq_false hin
    have HC := hid (fun W hE => by have := HCK.out W hE; rw [hin] at this; exact this)
    have HA2 := hid (show (ac ++ [x]) ++ M.woK ps (ls.drop (k + 1)) (k + 1) = M.without ls ps by have := HA.out; rw [if_neg hin'] at this; rw [List.append_assoc]; exact this)
    clear hin hin'
    go_wp2_with (first | (go_at_call 88; ((with_reducible refine (HC.out _ hE2).mono ?_); rintro e w1 ⟨rfl, hb1⟩; obtain ⟨x0, x1, x2⟩ := cells3 (hb1.heap (alloc1 wr (.cells #[.int .i64 x.wk, .int .i64 x.ct.lo, .int .i64 x.ct.hi] 73)).1); have hE3 : Ev wr w1 := Ev.trans (Ev.alloc (Ev.refl _) _) hb1)) | (at_builtin; refine wpList_append_own_at _ rfl (.tmp 19) (.tmp 21) 36 rfl w.heap.size 73 i0 _ 3 24 Try.underlying36 hi0 hz0 hz1 hz2 rfl (by decide) _ m (ac.flatMap lkc) rfl ((HOW.out.ev hE3).alloc _) ⟨w1.heap.size, 0, none⟩ 1 1 [.int .i64 x.wk, .int .i64 x.ct.lo, .int .i64 x.ct.hi] rfl rfl (news_in (alloc1 w1 _).1) (by simp [Value.oneCell']) (by unfold maxLen; omega) (by omega) (by have := hE3.size; simp; omega) ?_; intro v' w3 hown' hgrow _ _; obtain ⟨V', d', rfl⟩ := own_form hown'; have HO3 := hid hown'; have HE3 := hid (Ev.grown ((hB.trans hE3).alloc (.cells #[.int .i64 x.wk, .int .i64 x.ct.lo, .int .i64 x.ct.hi] 73)) hgrow (fun q e => (HOW.out.lt q e).1) : Ev w w3); clear hown' hgrow))
    exact ⟨⟨k + 1, V', m + 1, d', ac ++ [x], rfl, by go_num, by omega, by omega, HE3.out, by rw [List.flatMap_append]; exact HO3.out, HA2⟩, by simp [intOf]; omega⟩
  ·
   have H := hid (hs.done hlt)
   have HOW := hid hown
   clear hown
   go_wp2
   go_ret
   refine ⟨⟨V, m, d, rfl, ?_⟩, hB⟩
   have h := hall.out
   rw [H.out, M.woK, List.append_nil] at h
   rw [← h]
   exact sl_own (by decide) (lkc_len _) (by omega) HOW.out

/-- Some looks can be left out. -/
def M.spares (f : M.Cf) (ps : List Int) : Bool := M.fit f (M.without f.looks ps)

set_option maxRecDepth 100000 in
set_option maxHeartbeats 2000000 in
theorem spares_c (f : M.Cf) (Ag Aw Ab Ac Al : Option Addr) (ng cg nw cw nb cb nc cc nl cl : Nat) (At As : Option Addr) (nt ct ns cs p mb : Nat) (ts : List M.Tr) (hlk : ∀ l ∈ f.looks, 0 ≤ l.wk ∧ l.wk ≤ 9) (hl5 : nl ≤ 5) (P : Option Addr) (pn pc : Nat) (ps : List Int) (w : World) (hw : Wc w f Ag Aw Ab Ac Al ng cg nw cw nb cb nc cc nl cl At As nt ct ns cs p mb ts (M.stands f)) (hp : Sl ics 1 w w.heap.size P pn pc ps) :
  Calls Try.prog 70 #[.pointer (some ⟨p, 0, none⟩), .slice P pn pc] w fun e w' => e = .returned (.bool (M.spares f ps)) ∧ Ev w w' := by
 obtain ⟨k0, k1, k2, k3, k4, k5, k6, k7, k8, k9, k10, k11⟩ := cells12 hw.hd
 have HWO := hid (without_c Al P nl cl pn pc f.looks ps (by omega) w hw.fd.l hp)
 have HFT := hid (fun (B : Option Addr) (m d : Nat) W (hE : Ev w W) (h : Sl lkc 3 W W.heap.size B m d (M.without f.looks ps)) => fit_c f Ag Aw Ab Ac Al ng cg nw cw nb cb nc cc nl cl At As nt ct ns cs p mb ts B m d (M.without f.looks ps) (fun l hl => hlk l (M.woK_mem ps f.looks 0 l hl)) W (hw.ev hE) h)
 have HD := hid (show M.spares f ps = M.fit f (M.without f.looks ps) from rfl)
 generalize M.fit f (M.without f.looks ps) = r at HFT HD
 clear hlk
 go_enter Try.func70, Try.ntmps70
 go_wp2_with (first | (go_at_call 98; ((with_reducible refine HWO.out.mono ?_); rintro e w1 ⟨⟨B, m, d, rfl, hsl⟩, hb1⟩)) | (go_at_call 74; ((with_reducible refine (HFT.out _ _ _ _ hb1 hsl).mono ?_); rintro e w2 ⟨rfl, hb2⟩)))
 go_ret
 exact ⟨by rw [HD.out]; rfl, hb1.trans hb2⟩

end Go.Proofs.Ytffbkbcjddigdaa
