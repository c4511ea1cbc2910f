import Derived.Test.YtffbkbcjddigdaaA74
set_option linter.unusedSimpArgs false
set_option linter.unusedVariables false
namespace Go.Proofs.Ytffbkbcjddigdaa
open Go.RowKit Go.Shelf

/-- A field with other growths, wets and looks. -/
def M.wid (f : M.Cf) (G : List M.Rg) (W : List Int) (L : List M.Lk) : M.Cf := ⟨f.last, G, W, f.base, f.crops, f.ripe, f.late, f.trod, L⟩
/-- These are wider. -/
structure M.Wd (f : M.Cf) (G : List M.Rg) (W : List Int) (L : List M.Lk) : Prop where
 gl : G.length = f.gr.length
 wl : W.length = f.wet.length
 ll : L.length = f.looks.length
 gr : ∀ (j : Nat) (r r' : M.Rg), f.gr[j]? = some r → G[j]? = some r' → r'.lo ≤ r.lo ∧ r.hi ≤ r'.hi
 wt : ∀ (j : Nat) (s s' : Int), f.wet[j]? = some s → W[j]? = some s' → s' = s ∨ s' = 2
 lk : ∀ (j : Nat) (l l' : M.Lk), f.looks[j]? = some l → L[j]? = some l' → l'.wk = l.wk ∧ l'.ct.lo ≤ l.ct.lo ∧ l.ct.hi ≤ l'.ct.hi
theorem M.Wd.listed {f : M.Cf} {G : List M.Rg} {W : List Int} {L : List M.Lk} (h : M.Wd f G W L) (hv : M.valid f = true) {t : M.Tr} (ht : M.listed f t = true) : M.listed (M.wid f G W L) t = true := by
 have hw := M.weeks_eq hv
 obtain ⟨l1, l2⟩ := M.listed_len hv ht
 have l1' : t.gr.length = f.gr.length := by have := (M.listed_bd hv ht).1; exact this
 have l2' : t.wet.length = f.wet.length := by have := (M.listed_bd hv ht).2.1; exact this
 have h1 := (M.listed_at l1' l2' hw).1 ht
 have l3 : t.gr.length = (M.wid f G W L).gr.length := by rw [l1']; exact h.gl.symm
 have l4 : t.wet.length = (M.wid f G W L).wet.length := by rw [l2']; exact h.wl.symm
 have l5 : (M.wid f G W L).gr.length = (M.wid f G W L).wet.length := by rw [← l3, ← l4, l1', l2', hw]
 refine (M.listed_at l3 l4 l5).2 (fun j hj x r' u s' a1 a2 a3 a4 => ?_)
 have hjg : j < f.gr.length := by have := (List.getElem?_eq_some_iff.1 a1).1; omega
 have hjw : j < f.wet.length := by omega
 have b2 : f.gr[j]? = some f.gr[j] := List.getElem?_eq_getElem hjg
 have b4 : f.wet[j]? = some f.wet[j] := List.getElem?_eq_getElem hjw
 have h2 := h1 j (by first | exact hj | omega) x f.gr[j] u f.wet[j] a1 b2 a3 b4
 have hs := M.wet_le hv f.wet[j] (List.getElem_mem _)
 have c1 := h.gr j _ r' b2 a2
 have c2 := h.wt j _ s' b4 a4
 generalize f.gr[j] = r at h2 c1
 generalize f.wet[j] = s at h2 c2 hs
 obtain ⟨d1, d2⟩ := h2
 unfold M.holds at d1 d2 ⊢
 unfold M.wr at d2 ⊢
 simp only [Bool.and_eq_true, decide_eq_true_eq] at d1 d2 ⊢
 refine ⟨by omega, ?_⟩
 rcases c2 with c2 | c2
 ·
  rw [c2]; exact d2
 ·
  rw [if_pos c2]
  by_cases h2 : s = 2
  ·
   rw [if_pos h2] at d2; exact d2
  ·
   rw [if_neg h2] at d2
   simp only at d2 ⊢
   omega
theorem M.Wd.shows {f : M.Cf} {G : List M.Rg} {W : List Int} {L : List M.Lk} (h : M.Wd f G W L) {st : List Int} {j : Nat} {l l' : M.Lk} (h1 : f.looks[j]? = some l) (h2 : L[j]? = some l') (hs : M.shows st l = true) : M.shows st l' = true := by
 obtain ⟨c1, c2, c3⟩ := h.lk j l l' h1 h2
 unfold M.shows M.holds at hs ⊢
 rw [c1]
 simp only [Bool.and_eq_true, decide_eq_true_eq] at hs ⊢
 omega
theorem M.Wd.truths {f : M.Cf} {G : List M.Rg} {W : List Int} {L : List M.Lk} (h : M.Wd f G W L) (h0 : M.check f = 0) (h0x : M.check (M.wid f G W L) = 0) : ∀ t ∈ M.truths f, t ∈ M.truths (M.wid f G W L) := fun t ht => by
 obtain ⟨h1, h2⟩ := (M.mem_truths h0).1 ht
 refine (M.mem_truths h0x).2 ⟨h.listed (M.check_ok h0).1 h1, fun l' hl' => ?_⟩
 obtain ⟨j, hj, rfl⟩ := List.getElem_of_mem hl'
 have hjl : j < f.looks.length := by have := h.ll; have : j < L.length := hj; omega
 exact h.shows (j := j) (List.getElem?_eq_getElem hjl) (List.getElem?_eq_getElem hj) (h2 _ (List.getElem_mem _))
theorem M.Wd.fit {f : M.Cf} {G : List M.Rg} {W : List Int} {L : List M.Lk} (h : M.Wd f G W L) (h0 : M.check f = 0) (h0x : M.check (M.wid f G W L) = 0) {b : Nat} (hf : M.fit f (M.keepK b f.looks 0) = true) : M.fit (M.wid f G W L) (M.keepK b L 0) = true := by
 rw [M.fit_any, List.any_eq_true] at hf ⊢
 obtain ⟨t, h1, h2⟩ := hf
 rw [List.all_eq_true] at h2
 refine ⟨t, (M.mem_allTruths (M.check_ok h0x).1 t).2 (h.listed (M.check_ok h0).1 ((M.mem_allTruths (M.check_ok h0).1 t).1 h1)), List.all_eq_true.2 (fun l' hl' => ?_)⟩
 obtain ⟨j, hj, hb⟩ := (M.mem_keepK b l' L 0).1 hl'
 have hjl : j < f.looks.length := by have := (List.getElem?_eq_some_iff.1 hj).1; have := h.ll; omega
 have hx : f.looks[j]? = some f.looks[j] := List.getElem?_eq_getElem hjl
 exact h.shows (j := j) hx hj (h2 _ ((M.mem_keepK b _ f.looks 0).2 ⟨j, hx, hb⟩))
/-- No more looks have to be left out. -/
theorem M.Wd.leave {f : M.Cf} {G : List M.Rg} {W : List Int} {L : List M.Lk} (h : M.Wd f G W L) (h0 : M.check f = 0) (h0x : M.check (M.wid f G W L) = 0) {n : Nat} (hl : f.looks.length = n) : (M.shortest (M.spares (M.wid f G W L)) n).length ≤ (M.shortest (M.spares f) n).length := by
 obtain ⟨c, hc, hfit, he⟩ := M.leave_bits h0 hl
 rw [he]
 exact M.leave_least h0x (show (M.wid f G W L).looks.length = n by rw [← hl]; exact h.ll) hc (h.fit h0 h0x hfit)
/-- The bounds of a plan's worth are no narrower. -/
theorem M.Wd.worth {f : M.Cf} {G : List M.Rg} {W : List Int} {L : List M.Lk} (h : M.Wd f G W L) (h0 : M.check f = 0) (h0x : M.check (M.wid f G W L) = 0) (hn : M.truths f ≠ []) (plan : List Int) : (M.worth (M.wid f G W L) plan).lo ≤ (M.worth f plan).lo ∧ (M.worth f plan).hi ≤ (M.worth (M.wid f G W L) plan).hi :=
 M.span_sub (a := (M.truths f).map fun t => M.total f t plan) (b := (M.truths (M.wid f G W L)).map fun t => M.total f t plan) (by simpa using hn) (fun y hy => by
  obtain ⟨t, ht, rfl⟩ := List.mem_map.1 hy
  exact List.mem_map.2 ⟨t, h.truths h0 h0x t ht, rfl⟩)
/-- The best plan is sure to be worth no more. -/
theorem M.Wd.best {f : M.Cf} {G : List M.Rg} {W : List Int} {L : List M.Lk} (h : M.Wd f G W L) (h0 : M.check f = 0) (h0x : M.check (M.wid f G W L) = 0) (hn : M.truths f ≠ []) : (M.best (M.wid f G W L) (M.truths (M.wid f G W L))).2 ≤ (M.best f (M.truths f)).2 := by
 have h9 : 0 ≤ f.last ∧ f.last ≤ 9 := ⟨(M.valid_parts (M.check_ok h0).1).1, (M.check0 h0).1⟩
 exact M.best_sub (f := f) h9 hn (h.truths h0 h0x)
/-- One range made wider, one wet not known, one look made wider. -/
def M.wdR (r : M.Rg) (lo hi top : Int) : M.Rg := ⟨max 0 (r.lo - lo), min top (r.hi + hi)⟩
theorem M.wd_gr {f : M.Cf} (hv : M.valid f = true) {k : Nat} {r : M.Rg} {lo hi : Int} (h0 : 0 ≤ lo) (h1 : 0 ≤ hi) (hr : f.gr[k]? = some r) : M.Wd f (f.gr.set k (M.wdR r lo hi 50)) f.wet f.looks := by
 refine ⟨by simp, rfl, rfl, fun j a b ha hb => ?_, fun j s s' ha hb => ?_, fun j l l' ha hb => ?_⟩
 ·
  rw [List.getElem?_set] at hb
  split at hb
  ·
   rename_i hkj
   subst hkj
   rw [hr] at ha
   obtain rfl := Option.some.inj ha
   split at hb
   ·
    obtain rfl := Option.some.inj hb
    have := M.gr_le hv r (List.mem_of_getElem? hr)
    unfold M.wdR
    simp only
    omega
   ·
    cases hb
  ·
   rw [ha] at hb
   obtain rfl := Option.some.inj hb
   omega
 ·
  rw [ha] at hb
  exact .inl (Option.some.inj hb).symm
 ·
  rw [ha] at hb
  obtain rfl := Option.some.inj hb
  omega
theorem M.wd_wt {f : M.Cf} (k : Nat) : M.Wd f f.gr (f.wet.set k 2) f.looks := by
 refine ⟨rfl, by simp, rfl, fun j a b ha hb => ?_, fun j s s' ha hb => ?_, fun j l l' ha hb => ?_⟩
 ·
  rw [ha] at hb
  obtain rfl := Option.some.inj hb
  omega
 ·
  rw [List.getElem?_set] at hb
  split at hb
  ·
   split at hb
   ·
    exact .inr (Option.some.inj hb).symm
   ·
    cases hb
  ·
   rw [ha] at hb
   exact .inl (Option.some.inj hb).symm
 ·
  rw [ha] at hb
  obtain rfl := Option.some.inj hb
  omega
theorem M.wd_lk {f : M.Cf} (hv : M.valid f = true) {k : Nat} {r : M.Lk} {lo hi : Int} (h0 : 0 ≤ lo) (h1 : 0 ≤ hi) (hr : f.looks[k]? = some r) : M.Wd f f.gr f.wet (f.looks.set k ⟨r.wk, M.wdR r.ct lo hi 1000⟩) := by
 refine ⟨rfl, rfl, by simp, fun j a b ha hb => ?_, fun j s s' ha hb => ?_, fun j l l' ha hb => ?_⟩
 ·
  rw [ha] at hb
  obtain rfl := Option.some.inj hb
  omega
 ·
  rw [ha] at hb
  exact .inl (Option.some.inj hb).symm
 ·
  rw [List.getElem?_set] at hb
  split at hb
  ·
   rename_i hkj
   subst hkj
   rw [hr] at ha
   obtain rfl := Option.some.inj ha
   split at hb
   ·
    obtain rfl := Option.some.inj hb
    have hvl := (M.valid_parts hv).2.2.2.2.2.2.2.2.2.2.2.2 r (List.mem_of_getElem? hr)
    unfold M.validLook M.upTo at hvl
    simp only [Bool.and_eq_true, decide_eq_true_eq] at hvl
    refine ⟨rfl, ?_, ?_⟩
    ·
     show max 0 (r.ct.lo - lo) ≤ r.ct.lo
     omega
    ·
     show r.ct.hi ≤ min 1000 (r.ct.hi + hi)
     omega
   ·
    cases hb
  ·
   rw [ha] at hb
   obtain rfl := Option.some.inj hb
   omega
theorem M.wd_same (f : M.Cf) : M.Wd f f.gr f.wet f.looks := by
 refine ⟨rfl, rfl, rfl, fun j a b ha hb => ?_, fun j s s' ha hb => ?_, fun j l l' ha hb => ?_⟩
 ·
  rw [ha] at hb
  obtain rfl := Option.some.inj hb
  omega
 ·
  rw [ha] at hb
  exact .inl (Option.some.inj hb).symm
 ·
  rw [ha] at hb
  obtain rfl := Option.some.inj hb
  omega
end Go.Proofs.Ytffbkbcjddigdaa
