import Derived.Test.YtcecmphdmpeibaaL38
set_option linter.unusedSimpArgs false
set_option linter.unusedVariables false
namespace Go.Proofs.Ytcecmphdmpeibaa
open Go.RowKit

/-- The field g allows whatever f allows. -/
structure M.Wide (f g : M.Fl) : Prop where
  rows : g.rows = f.rows
  wds : g.wds = f.wds
  len : g.ts.length = f.ts.length
  allows : ∀ l, M.Say f l → M.allows f (M.pad l) = true → M.allows g (M.pad l) = true
  at_ : ∀ (j : Nat) (u : M.Tl), g.ts[j]? = some u → ∃ t, f.ts[j]? = some t ∧ ∀ l, M.Say f l → M.holds t.ct (M.count (M.pad l) t.wd t.fr t.to) = true → M.holds u.ct (M.count (M.pad l) u.wd u.fr u.to) = true

theorem M.Wide.say {f g : M.Fl} (h : M.Wide f g) (l : List Int) : M.Say g l ↔ M.Say f l := by unfold M.Say; rw [h.rows, h.wds]
theorem M.Wide.sub {f g : M.Fl} (h : M.Wide f g) (hf : M.check f = 0) (hg : M.check g = 0) : ∀ l ∈ M.rtruths f, l ∈ M.rtruths g := by
  intro l hl
  obtain ⟨h1, h2, h3⟩ := (M.mem_rtruths hf l).1 hl
  refine (M.mem_rtruths hg l).2 ⟨(h.say l).2 h1, h.allows l h1 h2, fun u hu => ?_⟩
  obtain ⟨j, hj⟩ := List.getElem?_of_mem hu
  obtain ⟨t, ht, hi⟩ := h.at_ j u hj
  exact hi l h1 (h3 t (List.mem_of_getElem? ht))
theorem M.Wide.leave {f g : M.Fl} (h : M.Wide f g) (hf : M.check f = 0) (hg : M.check g = 0) : (M.leaveBest g).length ≤ (M.leaveBest f).length := by
  obtain ⟨c, hc, ⟨l, s1, s2, s3⟩, he⟩ := M.leave_spare hf
  have hsp : M.Spare g c := by
    refine ⟨l, (h.say l).2 s1, h.allows l s1 s2, fun j u hu hj => ?_⟩
    obtain ⟨t, ht, hi⟩ := h.at_ j u hu
    exact hi l s1 (s3 j t ht hj)
  have := M.leave_least hg (by rw [h.len]; exact hc) hsp
  rw [he]
  exact this

def M.widR (r : M.Rg) (m d1 d2 : Int) : M.Rg := ⟨max 0 (r.lo - d1), min m (r.hi + d2)⟩
def M.widL (f : M.Fl) (d1 d2 : Int) : M.Fl := ⟨f.rows, f.wds, M.widR f.lf f.rows d1 d2, f.ts⟩
def M.widT (f : M.Fl) (i : Nat) (t : M.Tl) (d1 d2 : Int) : M.Fl := ⟨f.rows, f.wds, f.lf, f.ts.set i ⟨t.wd, t.fr, t.to, M.widR t.ct f.rows d1 d2⟩⟩

theorem M.check_of {f g : M.Fl} (h : M.check f = 0) (hr : g.rows = f.rows) (hw : g.wds = f.wds) (hl : g.ts.length = f.ts.length) (h1 : M.upTo g.lf g.rows = true) (h2 : ∀ t ∈ g.ts, M.validTally g t = true) : M.check g = 0 := by
  obtain ⟨r1, r7, d1, d3, hp, n5⟩ := M.check_bd h
  have hv : M.valid g = true := by
    unfold M.valid
    simp only [Bool.and_eq_true, decide_eq_true_eq, List.all_eq_true]
    exact ⟨by omega, by omega, h1, h2⟩
  have hpw : M.power g = M.power f := by unfold M.power; rw [hr, hw]
  unfold M.check
  rw [if_neg (by omega), hv, hpw, if_neg (by decide), if_neg (by omega)]

theorem M.validTally_of {f : M.Fl} (h : M.check f = 0) : ∀ t ∈ f.ts, M.validTally f t = true := by
  intro t ht
  have := M.tally_of h t ht
  simp only [M.validTally, M.hasWd, M.hasRow, M.upTo, Bool.and_eq_true, decide_eq_true_eq]
  omega


/-- How often a sheet says something is at most the number of its rows. -/
theorem M.count_le {f : M.Fl} (h : M.check f = 0) {l : List Int} (hs : M.Say f l) (x fr tt : Int) (h0 : 0 ≤ fr) (h1 : tt < f.rows) (h2 : 0 ≤ f.rows) : 0 ≤ M.count (M.pad l) x fr tt ∧ M.count (M.pad l) x fr tt ≤ f.rows := by
  obtain ⟨r1, r7, _⟩ := M.check_bd h
  unfold M.count
  have hb := M.cnt_bd x (((M.pad l).drop fr.toNat).take (tt.toNat + 1 - fr.toNat))
  have h2 : (((M.pad l).drop fr.toNat).take (tt.toNat + 1 - fr.toNat)).length ≤ tt.toNat + 1 - fr.toNat := by
    rw [List.length_take]; omega
  omega

theorem M.holds_wid {r : M.Rg} {m d1 d2 x : Int} (p1 : 0 ≤ d1) (p2 : 0 ≤ d2) (hx : 0 ≤ x) (hm : x ≤ m) (h : M.holds r x = true) : M.holds (M.widR r m d1 d2) x = true := by
  unfold M.holds M.widR at *
  simp only [Bool.and_eq_true, decide_eq_true_eq] at h ⊢
  omega
theorem M.upTo_wid {r : M.Rg} {m d1 d2 : Int} (p1 : 0 ≤ d1) (p2 : 0 ≤ d2) (h0 : 0 ≤ r.lo) (h1 : r.lo ≤ r.hi) (h2 : r.hi ≤ m) : M.upTo (M.widR r m d1 d2) m = true := by
  unfold M.upTo M.widR
  simp only [Bool.and_eq_true, decide_eq_true_eq]
  omega

theorem M.widL_ok {f : M.Fl} {d1 d2 : Int} (h : M.check f = 0) (p1 : 0 ≤ d1) (p2 : 0 ≤ d2) : M.check (M.widL f d1 d2) = 0 ∧ M.Wide f (M.widL f d1 d2) := by
  obtain ⟨l0, l1, l2⟩ := M.left_of h
  obtain ⟨r1, r7, _⟩ := M.check_bd h
  refine ⟨M.check_of h rfl rfl rfl (M.upTo_wid p1 p2 l0 l1 l2) (fun t ht => M.validTally_of h t ht), rfl, rfl, rfl, ?_, fun j u hu => ⟨u, hu, fun l _ h => h⟩⟩
  intro l hs ha
  have hc := M.count_le h hs (-1) 0 (f.rows - 1) (by omega) (by omega) (by omega)
  exact M.holds_wid p1 p2 hc.1 hc.2 ha

theorem M.widT_ok {f : M.Fl} {i : Nat} {t : M.Tl} {d1 d2 : Int} (h : M.check f = 0) (ht : f.ts[i]? = some t) (p1 : 0 ≤ d1) (p2 : 0 ≤ d2) : M.check (M.widT f i t d1 d2) = 0 ∧ M.Wide f (M.widT f i t d1 d2) := by
  obtain ⟨l0, l1, l2⟩ := M.left_of h
  obtain ⟨hi, _⟩ := List.getElem?_eq_some_iff.1 ht
  obtain ⟨t1, t2, t3, t4, t5, t6, t7, t8⟩ := M.tally_of h t (List.mem_of_getElem? ht)
  refine ⟨M.check_of h rfl rfl (by simp [M.widT]) ?_ ?_, rfl, rfl, by simp [M.widT], fun l _ h => h, ?_⟩
  · show M.upTo f.lf f.rows = true
    simp only [M.upTo, Bool.and_eq_true, decide_eq_true_eq]
    exact ⟨l0, l1, l2⟩
  · intro u hu
    rcases List.mem_or_eq_of_mem_set hu with hu | rfl
    · exact M.validTally_of h u hu
    · have := M.upTo_wid (r := t.ct) (m := f.rows) p1 p2 t6 t7 t8
      show (decide (0 ≤ t.wd) && decide (t.wd < f.wds) && (decide (0 ≤ t.fr) && decide (t.fr < f.rows) && (decide (0 ≤ t.to) && decide (t.to < f.rows) && (decide (t.fr ≤ t.to) && M.upTo (M.widR t.ct f.rows d1 d2) f.rows)))) = true
      simp only [Bool.and_eq_true, decide_eq_true_eq]
      exact ⟨⟨t1, t2⟩, ⟨t3, by omega⟩, ⟨by omega, t5⟩, t4, this⟩
  · intro j u hu
    by_cases hj : i = j
    · subst hj
      have hu2 : (f.ts.set i ⟨t.wd, t.fr, t.to, M.widR t.ct f.rows d1 d2⟩)[i]? = some u := hu
      rw [List.getElem?_set_self hi] at hu2
      obtain rfl := Option.some.inj hu2
      refine ⟨t, ht, fun l hs hh => ?_⟩
      have hc := M.count_le h hs t.wd t.fr t.to t3 t5 (by omega)
      exact M.holds_wid p1 p2 hc.1 hc.2 hh
    · have hu2 : (f.ts.set i ⟨t.wd, t.fr, t.to, M.widR t.ct f.rows d1 d2⟩)[j]? = some u := hu
      rw [List.getElem?_set_ne hj] at hu2
      exact ⟨u, hu2, fun l _ hh => hh⟩

end Go.Proofs.Ytcecmphdmpeibaa
