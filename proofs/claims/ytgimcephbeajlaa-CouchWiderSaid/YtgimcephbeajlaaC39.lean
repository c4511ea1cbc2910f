import Derived.Test.YtgimcephbeajlaaC38
set_option linter.unusedSimpArgs false
set_option linter.unusedVariables false
namespace Go.Proofs.Ytgimcephbeajlaa
open Go.RowKit Go.Shelf

/-- A heap with another start, other wets and readings. -/
def M.wid (f : M.Cf) (S : M.Rg) (W : List M.Rg) (L : List M.Rd) : M.Cf := ⟨f.last, f.size, f.cool, f.die, f.burn, S, W, f.turns, L⟩
/-- These are wider. -/
structure M.Wd (f : M.Cf) (S : M.Rg) (W : List M.Rg) (L : List M.Rd) : Prop where
 st : S.lo ≤ f.st.lo ∧ f.st.hi ≤ S.hi
 wl : W.length = f.wet.length
 ll : L.length = f.rds.length
 wt : ∀ (j : Nat) (r r' : M.Rg), f.wet[j]? = some r → W[j]? = some r' → r'.lo ≤ r.lo ∧ r.hi ≤ r'.hi
 rd : ∀ (j : Nat) (l l' : M.Rd), f.rds[j]? = some l → L[j]? = some l' → l'.hr = l.hr ∧ l'.sn = l.sn ∧ l.er ≤ l'.er
theorem M.hK_wid (f : M.Cf) (S : M.Rg) (W : List M.Rg) (L : List M.Rd) (ps : List Int) : ∀ (ws : List Int) (i : Nat) (h : Int), M.hK (M.wid f S W L) ps ws i h = M.hK f ps ws i h
 | [], _, _ => rfl
 | w :: ws, i, h => by
  unfold M.hK
  rw [M.hK_wid f S W L ps ws]
  rfl
theorem M.heats_wid (f : M.Cf) (S : M.Rg) (W : List M.Rg) (L : List M.Rd) (t : M.Tr) (ps : List Int) : M.heats (M.wid f S W L) t ps = M.heats f t ps := by
 unfold M.heats
 rw [M.hK_wid]
theorem M.own_wid (f : M.Cf) (S : M.Rg) (W : List M.Rg) (L : List M.Rd) (t : M.Tr) : M.own (M.wid f S W L) t = M.own f t := by
 unfold M.own
 rw [M.heats_wid]
 rfl
theorem M.Wd.stays {f : M.Cf} {S : M.Rg} {W : List M.Rg} {L : List M.Rd} (h : M.Wd f S W L) (t : M.Tr) (plan : List Int) : M.stays (M.wid f S W L) t plan = M.stays f t plan := by
 unfold M.stays
 rw [M.heats_wid, show (M.wid f S W L).wet = W from rfl, h.wl]
 rfl
theorem M.Wd.listed {f : M.Cf} {S : M.Rg} {W : List M.Rg} {L : List M.Rd} (h : M.Wd f S W L) {t : M.Tr} (ht : M.listed f t = true) : M.listed (M.wid f S W L) t = true := by
 unfold M.listed at ht ⊢
 simp only [Bool.and_eq_true, decide_eq_true_eq] at ht ⊢
 obtain ⟨h1, h2, h3⟩ := ht
 obtain ⟨h4, h5⟩ := (M.inAll_at _ _).1 h3
 refine ⟨?_, by rw [h2]; exact h.wl.symm, (M.inAll_at _ _).2 ⟨by rw [h4]; exact h.wl.symm, fun j n r' hn hr' => ?_⟩⟩
 ·
  have := h.st
  show M.holds S t.st = true
  unfold M.holds at h1 ⊢
  simp only [Bool.and_eq_true, decide_eq_true_eq] at h1 ⊢
  omega
 ·
  have hjl : j < f.wet.length := by have := (List.getElem?_eq_some_iff.1 hn).1; omega
  have hx : f.wet[j]? = some f.wet[j] := List.getElem?_eq_getElem hjl
  have h6 := h5 j n _ hn hx
  have h7 := h.wt j _ r' hx hr'
  generalize f.wet[j] = r at h6 h7
  unfold M.holds at h6 ⊢
  simp only [Bool.and_eq_true, decide_eq_true_eq] at h6 ⊢
  omega
theorem M.Wd.shows {f : M.Cf} {S : M.Rg} {W : List M.Rg} {L : List M.Rd} (h : M.Wd f S W L) {st : List Int} {j : Nat} {l l' : M.Rd} (h1 : f.rds[j]? = some l) (h2 : L[j]? = some l') (hs : M.shows st l = true) : M.shows st l' = true := by
 obtain ⟨c1, c2, c3⟩ := h.rd j l l' h1 h2
 unfold M.shows M.holds at hs ⊢
 rw [c1, c2]
 simp only [Bool.and_eq_true, decide_eq_true_eq] at hs ⊢
 omega
theorem M.Wd.truths {f : M.Cf} {S : M.Rg} {W : List M.Rg} {L : List M.Rd} (h : M.Wd f S W L) : ∀ t ∈ M.truths f, t ∈ M.truths (M.wid f S W L) := fun t ht => by
 unfold M.truths at ht ⊢
 rw [List.mem_filter] at ht ⊢
 refine ⟨(M.mem_allTruths _ t).2 (h.listed ((M.mem_allTruths f t).1 ht.1)), ?_⟩
 have h2 := ht.2
 unfold M.right at h2 ⊢
 rw [M.own_wid]
 rw [List.all_eq_true] at h2 ⊢
 intro l' hl'
 obtain ⟨j, hj, rfl⟩ := List.getElem_of_mem hl'
 have hjl : j < f.rds.length := by have := h.ll; have : j < L.length := hj; omega
 exact h.shows (j := j) (List.getElem?_eq_getElem hjl) (List.getElem?_eq_getElem hj) (h2 _ (List.getElem_mem _))
theorem M.Wd.fit {f : M.Cf} {S : M.Rg} {W : List M.Rg} {L : List M.Rd} (h : M.Wd f S W L) {b : Nat} (hf : M.fit f (M.keepK b f.rds 0) = true) : M.fit (M.wid f S W L) (M.keepK b L 0) = true := by
 rw [M.fit_any, List.any_eq_true] at hf ⊢
 obtain ⟨t, h1, h2⟩ := hf
 rw [List.all_eq_true] at h2
 refine ⟨t, (M.mem_allTruths _ t).2 (h.listed ((M.mem_allTruths f t).1 h1)), List.all_eq_true.2 (fun l' hl' => ?_)⟩
 rw [M.own_wid]
 obtain ⟨j, hj, hb⟩ := (M.mem_keepK b l' L 0).1 hl'
 have hjl : j < f.rds.length := by have := (List.getElem?_eq_some_iff.1 hj).1; have := h.ll; omega
 have hx : f.rds[j]? = some f.rds[j] := List.getElem?_eq_getElem hjl
 exact h.shows (j := j) hx hj (h2 _ ((M.mem_keepK b _ f.rds 0).2 ⟨j, hx, hb⟩))
/-- No more readings have to be left out. -/
theorem M.Wd.leave {f : M.Cf} {S : M.Rg} {W : List M.Rg} {L : List M.Rd} (h : M.Wd f S W L) (h0 : M.check f = 0) (h0x : M.check (M.wid f S W L) = 0) {n : Nat} (hl : f.rds.length = n) : (M.shortest (M.spares (M.wid f S W L)) n).length ≤ (M.shortest (M.spares f) n).length := by
 obtain ⟨c, hc, hfit, he⟩ := M.leave_bits h0 hl
 rw [he]
 exact M.leave_least h0x (show (M.wid f S W L).rds.length = n by rw [← hl]; exact h.ll) hc (h.fit hfit)
/-- The bounds are no narrower. -/
theorem M.Wd.bounds {f : M.Cf} {S : M.Rg} {W : List M.Rg} {L : List M.Rd} (h : M.Wd f S W L) (hn : M.truths f ≠ []) (plan : List Int) : M.narrow (M.bounds f (M.truths f) plan) (M.bounds (M.wid f S W L) (M.truths (M.wid f S W L)) plan) = true :=
 M.bounds_sub (f := (M.wid f S W L)) (g := f) (h.wl.symm) hn h.truths plan (fun t _ => (M.heats_wid f S W L t plan).symm)
/-- No fewer turnings are needed. -/
theorem M.Wd.need {f : M.Cf} {S : M.Rg} {W : List M.Rg} {L : List M.Rd} (h : M.Wd f S W L) (hl : f.wet.length ≤ 10) : M.need f (M.truths f) ≤ M.need (M.wid f S W L) (M.truths (M.wid f S W L)) :=
 M.need_sub (f := (M.wid f S W L)) (g := f) (h.wl.symm) (by show W.length ≤ 10; rw [h.wl]; exact hl) (fun plan hb => by
  rw [List.all_eq_true] at hb ⊢
  exact fun t ht => by rw [← h.stays]; exact hb t (h.truths t ht))
/-- One range made wider, one reading made wider. -/
def M.wdR (r : M.Rg) (lo hi top : Int) : M.Rg := ⟨max 0 (r.lo - lo), min top (r.hi + hi)⟩
theorem M.wd_st {f : M.Cf} (hv : M.valid f = true) {lo hi : Int} (h0 : 0 ≤ lo) (h1 : 0 ≤ hi) : M.Wd f (M.wdR f.st lo hi 500) f.wet f.rds := by
 have := (M.valid_parts hv).2.2.2.1
 refine ⟨⟨?_, ?_⟩, rfl, rfl, fun j a b ha hb => ?_, fun j l l' ha hb => ?_⟩
 ·
  show max 0 (f.st.lo - lo) ≤ f.st.lo
  omega
 ·
  show f.st.hi ≤ min 500 (f.st.hi + hi)
  omega
 ·
  rw [ha] at hb
  obtain rfl := Option.some.inj hb
  omega
 ·
  rw [ha] at hb
  obtain rfl := Option.some.inj hb
  omega
theorem M.wd_wt {f : M.Cf} (hv : M.valid f = true) {k : Nat} {r : M.Rg} {lo hi : Int} (h0 : 0 ≤ lo) (h1 : 0 ≤ hi) (hr : f.wet[k]? = some r) : M.Wd f f.st (f.wet.set k (M.wdR r lo hi 20)) f.rds := by
 refine ⟨by omega, by simp, rfl, fun j a b ha hb => ?_, fun j l l' ha hb => ?_⟩
 ·
  rw [List.getElem?_set] at hb
  split at hb
  ·
   rename_i hkj
   subst hkj
   rw [hr] at ha
   obtain rfl := Option.some.inj ha
   split at hb
   ·
    obtain rfl := Option.some.inj hb
    have := M.wet_bd hv r (List.mem_of_getElem? hr)
    unfold M.wdR
    simp only
    omega
   ·
    cases hb
  ·
   rw [ha] at hb
   obtain rfl := Option.some.inj hb
   omega
 ·
  rw [ha] at hb
  obtain rfl := Option.some.inj hb
  omega
theorem M.wd_rd {f : M.Cf} (hv : M.valid f = true) {k : Nat} {r : M.Rd} {lo : Int} (h0 : 0 ≤ lo) (hr : f.rds[k]? = some r) : M.Wd f f.st f.wet (f.rds.set k ⟨r.hr, r.sn, min 50 (r.er + lo)⟩) := by
 refine ⟨by omega, rfl, by simp, fun j a b ha hb => ?_, fun j l l' ha hb => ?_⟩
 ·
  rw [ha] at hb
  obtain rfl := Option.some.inj hb
  omega
 ·
  rw [List.getElem?_set] at hb
  split at hb
  ·
   rename_i hkj
   subst hkj
   rw [hr] at ha
   obtain rfl := Option.some.inj ha
   split at hb
   ·
    obtain rfl := Option.some.inj hb
    have hvl : M.validRd f r = true := by
     unfold M.valid at hv
     simp only [Bool.and_eq_true, List.all_eq_true] at hv
     exact hv.2.2.2.2 r (List.mem_of_getElem? hr)
    unfold M.validRd M.holds at hvl
    simp only [Bool.and_eq_true, decide_eq_true_eq] at hvl
    refine ⟨rfl, rfl, ?_⟩
    show r.er ≤ min 50 (r.er + lo)
    omega
   ·
    cases hb
  ·
   rw [ha] at hb
   obtain rfl := Option.some.inj hb
   omega
theorem M.wd_same (f : M.Cf) : M.Wd f f.st f.wet f.rds := by
 refine ⟨by omega, rfl, rfl, fun j a b ha hb => ?_, fun j l l' ha hb => ?_⟩
 ·
  rw [ha] at hb
  obtain rfl := Option.some.inj hb
  omega
 ·
  rw [ha] at hb
  obtain rfl := Option.some.inj hb
  omega
end Go.Proofs.Ytgimcephbeajlaa
