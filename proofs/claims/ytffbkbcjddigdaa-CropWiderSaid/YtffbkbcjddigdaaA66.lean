import Derived.Test.YtffbkbcjddigdaaA58
import Derived.Test.YtffbkbcjddigdaaA50
set_option linter.unusedSimpArgs false
set_option linter.unusedVariables false
namespace Go.Proofs.Ytffbkbcjddigdaa
open Go.RowKit Go.Shelf

/-- How many numbers a range has, and how many there are for a Wet. -/
def M.sz (r : M.Rg) : Nat := (r.hi - r.lo + 1).toNat
def M.wayN (s : Int) : Nat := if s = 2 then 2 else 1
def M.wOf (s : Int) (n : Nat) : Int := if s = 2 then ((n % 2 : Nat) : Int) else s
/-- The growths, and the wets, of the truth with a number. -/
def M.ngr : List M.Rg → List Int → Nat → List Int
 | r :: gs, s :: ws, n => (r.lo + ((n % M.sz r : Nat) : Int)) :: M.ngr gs ws (n / M.sz r / M.wayN s)
 | _, _, _ => []
def M.nwt : List M.Rg → List Int → Nat → List Int
 | r :: gs, s :: ws, n => M.wOf s (n / M.sz r) :: M.nwt gs ws (n / M.sz r / M.wayN s)
 | _, _, _ => []
def M.nth (f : M.Cf) (n : Nat) : M.Tr := ⟨M.ngr f.gr f.wet n, M.nwt f.gr f.wet n⟩
def M.prodN : List M.Rg → List Int → Nat
 | r :: gs, s :: ws => M.sz r * (M.wayN s * M.prodN gs ws)
 | _, _ => 1
theorem M.ngr_len : ∀ (gs : List M.Rg) (ws : List Int) (n : Nat), gs.length = ws.length → (M.ngr gs ws n).length = gs.length
 | [], _, _, _ => by simp [M.ngr]
 | r :: gs, s :: ws, n, h => by rw [M.ngr, List.length_cons, M.ngr_len gs ws _ (by simpa using h), List.length_cons]
 | _ :: _, [], _, h => by simp at h
theorem M.nwt_len : ∀ (gs : List M.Rg) (ws : List Int) (n : Nat), gs.length = ws.length → (M.nwt gs ws n).length = ws.length
 | [], [], _, _ => by simp [M.nwt]
 | r :: gs, s :: ws, n, h => by rw [M.nwt, List.length_cons, M.nwt_len gs ws _ (by simpa using h), List.length_cons]
 | _ :: _, [], _, h => by simp at h
 | [], _ :: _, _, h => by simp at h
theorem M.wOf_ok {s : Int} (h0 : 0 ≤ s) (h2 : s ≤ 2) (n : Nat) : M.holds (M.wr s) (M.wOf s n) = true := by
 unfold M.wr M.wOf M.holds
 by_cases h : s = 2
 ·
  rw [if_pos h, if_pos h]; simp; omega
 ·
  rw [if_neg h, if_neg h]; simp
theorem M.nth_at : ∀ (gs : List M.Rg) (ws : List Int) (n : Nat), (∀ r ∈ gs, r.lo ≤ r.hi) → (∀ s ∈ ws, 0 ≤ s ∧ s ≤ 2) → ∀ (j : Nat) (x : Int) (r : M.Rg) (u s : Int), (M.ngr gs ws n)[j]? = some x → gs[j]? = some r → (M.nwt gs ws n)[j]? = some u → ws[j]? = some s → M.holds r x = true ∧ M.holds (M.wr s) u = true
 | r :: gs, s :: ws, n, hg, hw, j, x, r', u, s', h1, h2, h3, h4 => by
  rw [M.ngr] at h1
  rw [M.nwt] at h3
  cases j with
  | zero =>
   have hx := Option.some.inj (show some (r.lo + ((n % M.sz r : Nat) : Int)) = some x from h1)
   simp at h2 h3 h4
   subst h2 h3 h4 hx
   have hr := hg r (by simp)
   have hsw := hw s (by simp)
   refine ⟨?_, M.wOf_ok hsw.1 hsw.2 _⟩
   have : n % M.sz r < M.sz r := Nat.mod_lt _ (by unfold M.sz; omega)
   have hz : M.sz r = (r.hi - r.lo + 1).toNat := rfl
   generalize n % M.sz r = q at this ⊢
   generalize M.sz r = z at this hz ⊢
   unfold M.holds
   simp only [Bool.and_eq_true, decide_eq_true_eq]
   omega
  | succ j => exact M.nth_at gs ws _ (fun r hr => hg r (by simp [hr])) (fun s hs => hw s (by simp [hs])) j x r' u s' (by simpa using h1) (by simpa using h2) (by simpa using h3) (by simpa using h4)
 | [], _, _, _, _, j, _, _, _, _, h1, _, _, _ => by simp [M.ngr] at h1
 | _ :: _, [], _, _, _, j, _, _, _, _, h1, _, _, _ => by simp [M.ngr] at h1
theorem M.nth_onto : ∀ (gs : List M.Rg) (ws xs us : List Int), gs.length = ws.length → xs.length = gs.length → us.length = ws.length → (∀ s ∈ ws, 0 ≤ s ∧ s ≤ 2) →
  (∀ (j : Nat) (x : Int) (r : M.Rg) (u s : Int), xs[j]? = some x → gs[j]? = some r → us[j]? = some u → ws[j]? = some s → M.holds r x = true ∧ M.holds (M.wr s) u = true) → ∃ n, n < M.prodN gs ws ∧ M.ngr gs ws n = xs ∧ M.nwt gs ws n = us
 | [], [], [], [], _, _, _, _, _ => ⟨0, by simp [M.prodN], rfl, rfl⟩
 | r :: gs, s :: ws, x :: xs, u :: us, h1, h2, h3, hw, h => by
  obtain ⟨m, hm, e1, e2⟩ := M.nth_onto gs ws xs us (by simpa using h1) (by simpa using h2) (by simpa using h3) (fun s hs => hw s (by simp [hs])) (fun j x r u s a b c d => h (j + 1) x r u s (by simpa using a) (by simpa using b) (by simpa using c) (by simpa using d))
  obtain ⟨g1, g2⟩ := h 0 x r u s rfl rfl rfl rfl
  unfold M.holds at g1
  simp only [Bool.and_eq_true, decide_eq_true_eq] at g1
  have hz : 0 < M.sz r := by unfold M.sz; omega
  have hwn : 0 < M.wayN s := by unfold M.wayN; split <;> omega
  obtain ⟨a, ha⟩ : ∃ a : Nat, x - r.lo = a := ⟨(x - r.lo).toNat, by omega⟩
  have has : a < M.sz r := by unfold M.sz; omega
  obtain ⟨b, hb, hbu⟩ : ∃ b : Nat, b < M.wayN s ∧ ∀ m : Nat, M.wOf s (b + M.wayN s * m) = u := by
   unfold M.wr M.holds at g2
   unfold M.wayN M.wOf
   by_cases hs2 : s = 2
   ·
    rw [if_pos hs2] at g2
    simp only [Bool.and_eq_true, decide_eq_true_eq] at g2
    refine ⟨u.toNat, by rw [if_pos hs2]; omega, fun m => ?_⟩
    rw [if_pos hs2, if_pos hs2, Nat.add_mul_mod_self_left, Nat.mod_eq_of_lt (by omega)]
    omega
   ·
    rw [if_neg hs2] at g2
    simp only [Bool.and_eq_true, decide_eq_true_eq] at g2
    refine ⟨0, by rw [if_neg hs2]; omega, fun m => ?_⟩
    rw [if_neg hs2]
    omega
  have d1 : (a + M.sz r * (b + M.wayN s * m)) / M.sz r = b + M.wayN s * m := by rw [Nat.add_mul_div_left _ _ hz, Nat.div_eq_of_lt has, Nat.zero_add]
  have d2 : (a + M.sz r * (b + M.wayN s * m)) % M.sz r = a := by rw [Nat.add_mul_mod_self_left, Nat.mod_eq_of_lt has]
  have d3 : (b + M.wayN s * m) / M.wayN s = m := by rw [Nat.add_mul_div_left _ _ hwn, Nat.div_eq_of_lt hb, Nat.zero_add]
  refine ⟨a + M.sz r * (b + M.wayN s * m), ?_, ?_, ?_⟩
  ·
   rw [M.prodN]
   have i1 : M.wayN s * (m + 1) ≤ M.wayN s * M.prodN gs ws := Nat.mul_le_mul_left _ hm
   rw [Nat.mul_add, Nat.mul_one] at i1
   have i2 : M.sz r * (b + M.wayN s * m + 1) ≤ M.sz r * (M.wayN s * M.prodN gs ws) := Nat.mul_le_mul_left _ (by omega)
   rw [Nat.mul_add, Nat.mul_one] at i2
   omega
  ·
   rw [M.ngr, d1, d2, d3, e1, ← ha]
   congr 1
   omega
  ·
   rw [M.nwt, d1, d3, e2, hbu]
 | [], _ :: _, _, _, h1, _, _, _, _ => by simp at h1
 | _ :: _, [], _, _, h1, _, _, _, _ => by simp at h1
 | [], [], _ :: _, _, _, h2, _, _, _ => by simp at h2
 | [], [], [], _ :: _, _, _, h3, _, _ => by simp at h3
 | _ :: _, _ :: _, [], _, _, h2, _, _, _ => by simp at h2
 | _ :: _, _ :: _, _ :: _, [], _, _, h3, _, _ => by simp at h3
theorem M.prodN_prod : ∀ (gs : List M.Rg) (ws : List Int), gs.length = ws.length → (∀ r ∈ gs, r.lo ≤ r.hi) → ((M.prodN gs ws : Nat) : Int) = M.prodR gs * M.prodR (ws.map M.wr)
 | [], [], _, _ => by simp [M.prodN, M.prodR]
 | r :: gs, s :: ws, h, hg => by
  rw [M.prodN, List.map_cons, show M.prodR (r :: gs) = (r.hi - r.lo + 1) * M.prodR gs from rfl, show M.prodR (M.wr s :: ws.map M.wr) = ((M.wr s).hi - (M.wr s).lo + 1) * M.prodR (ws.map M.wr) from rfl, M.ways_wr]
  have hr := hg r (by simp)
  have h1 : ((M.sz r : Nat) : Int) = r.hi - r.lo + 1 := by unfold M.sz; omega
  have h2 : ((M.wayN s : Nat) : Int) = M.waysI s := by unfold M.wayN M.waysI; split <;> rfl
  rw [Int.natCast_mul, Int.natCast_mul, M.prodN_prod gs ws (by simpa using h) (fun x hx => hg x (by simp [hx])), h1, h2]
  simp only [Int.mul_assoc, Int.mul_left_comm, Int.mul_comm]
 | [], _ :: _, h, _ => by simp at h
 | _ :: _, [], h, _ => by simp at h
theorem M.gr_le {f : M.Cf} (hv : M.valid f = true) : ∀ r ∈ f.gr, 0 ≤ r.lo ∧ r.lo ≤ r.hi ∧ r.hi ≤ 50 := fun r hr => by
 obtain ⟨h0, h1, h2, h3, h4, _⟩ := M.valid_parts hv
 have := h2 r hr
 unfold M.isGrowth M.upTo at this
 simp only [Bool.and_eq_true, decide_eq_true_eq] at this
 omega
theorem M.wet_le {f : M.Cf} (hv : M.valid f = true) : ∀ s ∈ f.wet, 0 ≤ s ∧ s ≤ 2 := fun s hs => by
 obtain ⟨h0, h1, h2, h3, h4, _⟩ := M.valid_parts hv
 have := h4 s hs
 omega
theorem M.weeks_eq {f : M.Cf} (hv : M.valid f = true) : f.gr.length = f.wet.length := by
 obtain ⟨h0, h1, h2, h3, h4, _⟩ := M.valid_parts hv
 omega
theorem M.nth_listed {f : M.Cf} (hv : M.valid f = true) (n : Nat) : M.listed f (M.nth f n) = true := by
 have hl := M.weeks_eq hv
 refine (M.listed_at (M.ngr_len _ _ _ hl) (M.nwt_len _ _ _ hl) hl).2 (fun j _ x r u s h1 h2 h3 h4 => ?_)
 exact M.nth_at f.gr f.wet n (fun r hr => (M.gr_le hv r hr).2.1) (M.wet_le hv) j x r u s h1 h2 h3 h4
theorem M.check_ok {f : M.Cf} (h0 : M.check f = 0) : M.valid f = true ∧ M.tooMany (M.ranges f) 1 = false := by
 unfold M.check at h0
 split at h0
 ·
  omega
 ·
  split at h0
  ·
   omega
  ·
   rename_i h1
   split at h0
   ·
    omega
   ·
    rename_i h2
    exact ⟨by simpa using h1, by simpa using h2⟩
theorem M.many_nat {f : M.Cf} (h0 : M.check f = 0) : M.many f = ((M.prodN f.gr f.wet : Nat) : Int) ∧ M.prodN f.gr f.wet ≤ 2000 := by
 obtain ⟨hv, ht⟩ := M.check_ok h0
 have h1 := M.prodN_prod f.gr f.wet (M.weeks_eq hv) (fun r hr => (M.gr_le hv r hr).2.1)
 have h2 := M.many_min hv
 have h3 := M.many_too hv
 rw [ht, decide_eq_false_iff_not] at h3
 unfold M.ranges at h2
 rw [M.prodR_append] at h2
 omega
theorem M.many_pos {f : M.Cf} (hv : M.valid f = true) : 1 ≤ M.many f := by
 have h2 := M.many_min hv
 have h3 := M.prodR_pos (M.ranges f) (fun r hr => by
  unfold M.ranges at hr
  rcases List.mem_append.1 hr with hr | hr
  ·
   exact (M.gr_le hv r hr).2.1
  ·
   obtain ⟨y, _, rfl⟩ := List.mem_map.1 hr
   unfold M.wr; split <;> simp)
 omega
/-- Each truth that is listed has a number. -/
theorem M.listed_nth {f : M.Cf} (h0 : M.check f = 0) {t : M.Tr} (ht : M.listed f t = true) : ∃ n, n < M.prodN f.gr f.wet ∧ M.nth f n = t := by
 obtain ⟨hv, _⟩ := M.check_ok h0
 have hl := M.weeks_eq hv
 have hlt : t.gr.length = f.gr.length ∧ t.wet.length = f.wet.length := by
  unfold M.listed at ht
  simp only [Bool.and_eq_true, decide_eq_true_eq] at ht
  exact ⟨ht.1, ht.2.1⟩
 have hk := (M.listed_at hlt.1 hlt.2 hl).1 ht
 obtain ⟨n, h1, h2, h3⟩ := M.nth_onto f.gr f.wet t.gr t.wet hl hlt.1 hlt.2 (M.wet_le hv) (fun j x r u s a b c d => hk j (List.getElem?_eq_some_iff.1 a).1 x r u s a b c d)
 refine ⟨n, h1, ?_⟩
 unfold M.nth
 rw [h2, h3]
end Go.Proofs.Ytffbkbcjddigdaa

set_option linter.unusedSimpArgs false
set_option linter.unusedVariables false
namespace Go.Proofs.Ytffbkbcjddigdaa
open Go.RowKit

theorem M.fromL_plan : ∀ (l : List Int) (i : Nat) (x a : Int), M.rises l = true → l[i]? = some x → M.fromL l x a = if i = 0 then a else l.getD (i - 1) 0 + 1
 | [], i, x, a, _, h => by simp at h
 | p :: r, 0, x, a, hr, h => by
  obtain rfl : p = x := by simpa using h
  unfold M.fromL
  rw [if_neg (by omega), if_pos rfl]
  exact M.fromL_none r p a (fun q hq => by have := M.rises_lt hr q hq; omega)
 | p :: r, i + 1, x, a, hr, h => by
  have h2 : r[i]? = some x := by simpa using h
  have := M.rises_lt hr x (List.mem_of_getElem? h2)
  unfold M.fromL
  rw [if_pos this, M.fromL_plan r i x (p + 1) (M.rises_tail hr) h2, if_neg (Nat.succ_ne_zero i)]
  cases i with
  | zero => simp
  | succ i => simp
/-- Where the weight of a crop begins. -/
def M.prevW (plan : List Int) (i : Nat) : Nat := if i = 0 then 0 else (plan.getD (i - 1) 0).toNat + 1
theorem M.left_at {f : M.Cf} {t : M.Tr} {plan : List Int} (hgl : (t.gr.length : Int) = f.last + 1) (hpl : M.isPlan f plan = true) {i : Nat} {x : Int} (hx : plan[i]? = some x) :
  M.left f t plan x = M.leaves f (M.upK t.gr (x.toNat + 1) - M.upK t.gr (M.prevW plan i)) (t.wet.getD x.toNat 0 == 1) := by
 obtain ⟨_, hr, hp⟩ := M.plan_parts hpl
 have h1 := hp x (List.mem_of_getElem? hx)
 unfold M.left
 rw [M.weights_at hr (fun q hq => (hp q hq).1) (show x.toNat < t.gr.length by omega)]
 have h2 := M.fromL_plan plan i x 0 hr hx
 rw [show ((x.toNat : Nat) : Int) = x by omega, h2]
 have h3 : (if i = 0 then 0 else plan.getD (i - 1) 0 + 1).toNat = M.prevW plan i := by
  unfold M.prevW
  by_cases h : i = 0
  ·
   rw [if_pos h, if_pos h]; rfl
  ·
   rw [if_neg h, if_neg h]
   have hi := (List.getElem?_eq_some_iff.1 hx).1
   have hg : plan[i - 1]? = some (plan[i - 1]'(by omega)) := List.getElem?_eq_getElem _
   have h4 := hp _ (List.mem_of_getElem? hg)
   rw [List.getD_eq_getElem?_getD, hg, Option.getD_some]
   omega
 rw [h3]
theorem M.leaves_le {f : M.Cf} (ht : 0 ≤ f.trod ∧ f.trod ≤ 100) {a : Int} (ha : 0 ≤ a) (b : Bool) : 0 ≤ M.leaves f a b ∧ M.leaves f a b ≤ a := by
 unfold M.leaves
 have h1 : 0 ≤ a * f.trod := Int.mul_nonneg ha ht.1
 have h2 : a * f.trod ≤ a * 100 := Int.mul_le_mul_of_nonneg_left ht.2 ha
 generalize a * f.trod = q at h1 h2
 cases b
 ·
  simp [ha]
 ·
  simp
  omega
theorem M.leaves_mono {f : M.Cf} (ht : 0 ≤ f.trod ∧ f.trod ≤ 100) {a c : Int} (ha : 0 ≤ a) (h : a ≤ c) (b : Bool) : M.leaves f a b ≤ M.leaves f c b := by
 unfold M.leaves
 have h2 : (c - a) * f.trod ≤ (c - a) * 100 := Int.mul_le_mul_of_nonneg_left ht.2 (by omega)
 have h3 : c * f.trod = a * f.trod + (c - a) * f.trod := by rw [← Int.add_mul]; congr 1; omega
 rw [h3]
 generalize a * f.trod = q
 generalize (c - a) * f.trod = e at h2
 cases b
 ·
  simp [h]
 ·
  simp
  omega
theorem M.listed_len {f : M.Cf} (hv : M.valid f = true) {t : M.Tr} (h : M.listed f t = true) : (t.gr.length : Int) = f.last + 1 ∧ (t.wet.length : Int) = f.last + 1 := by
 obtain ⟨h0, h1, h2, h3, h4, _⟩ := M.valid_parts hv
 unfold M.listed at h
 simp only [Bool.and_eq_true, decide_eq_true_eq] at h
 omega
theorem M.listed_gr {f : M.Cf} (hv : M.valid f = true) {t : M.Tr} (h : M.listed f t = true) : ∀ g ∈ t.gr, 0 ≤ g ∧ g ≤ 50 := fun g hg => by
 have hl := M.listed_len hv h
 have hw := M.weeks_eq hv
 obtain ⟨h0, h1, h2, h3, h4, _⟩ := M.valid_parts hv
 have hk := (M.listed_at (f := f) (t := t) (by omega) (by omega) hw).1 h
 obtain ⟨j, hj⟩ := List.getElem?_of_mem hg
 have hjl := (List.getElem?_eq_some_iff.1 hj).1
 have hh := (hk j hjl g (f.gr[j]'(by omega)) (t.wet[j]'(by omega)) (f.wet[j]'(by omega)) hj (List.getElem?_eq_getElem _) (List.getElem?_eq_getElem _) (List.getElem?_eq_getElem _)).1
 have hb := M.gr_le hv _ (List.getElem_mem (show j < f.gr.length by omega))
 unfold M.holds at hh
 simp only [Bool.and_eq_true, decide_eq_true_eq] at hh
 omega
theorem M.care {f : M.Cf} (hv : M.valid f = true) : 0 ≤ f.trod ∧ f.trod ≤ 100 ∧ 0 ≤ f.late ∧ f.late ≤ 50 ∧ 1 ≤ f.ripe := by
 unfold M.valid M.validCare at hv
 simp only [Bool.and_eq_true] at hv
 obtain ⟨_, _, ⟨h1, h2, h3⟩, _⟩ := hv
 unfold M.holds at h1 h2 h3
 simp only [Bool.and_eq_true, decide_eq_true_eq] at h1 h2 h3
 omega
/-- A crop depends on nothing behind its week. -/
theorem M.crop_eq {f : M.Cf} {t u : M.Tr} {p q : List Int} (hv : M.valid f = true) (ht : M.listed f t = true) (hu : M.listed f u = true) (hp : M.isPlan f p = true) (hq : M.isPlan f q = true) {i : Nat} {x : Int} (hx : p[i]? = some x) (hy : q[i]? = some x) (hb : M.prevW p i = M.prevW q i) (ha : M.age p i = M.age q i)
  (hg : ∀ k, k ≤ x.toNat + 1 → M.upK t.gr k = M.upK u.gr k) (hw : t.wet.getD x.toNat 0 = u.wet.getD x.toNat 0) (hpx : M.prevW p i ≤ x.toNat + 1) : M.crop f t p i = M.crop f u q i := by
 have h1 := M.left_at (M.listed_len hv ht).1 hp hx
 have h2 := M.left_at (M.listed_len hv hu).1 hq hy
 rw [← hb, ← hg _ (Nat.le_refl _), ← hg _ hpx, ← hw, ← h1] at h2
 have hpd : p.getD i 0 = x := by rw [List.getD_eq_getElem?_getD, hx]; rfl
 have hqd : q.getD i 0 = x := by rw [List.getD_eq_getElem?_getD, hy]; rfl
 unfold M.crop M.strength
 rw [hpd, hqd, h2, ha]
theorem M.prevW_le {f : M.Cf} {p : List Int} (hp : M.isPlan f p = true) {i : Nat} {x : Int} (hx : p[i]? = some x) : M.prevW p i ≤ x.toNat ∧ 0 ≤ x ∧ x ≤ f.last := by
 obtain ⟨_, hr, hb⟩ := M.plan_parts hp
 have h1 := hb x (List.mem_of_getElem? hx)
 refine ⟨?_, h1⟩
 unfold M.prevW
 by_cases h : i = 0
 ·
  rw [if_pos h]; omega
 ·
  rw [if_neg h]
  have hi := (List.getElem?_eq_some_iff.1 hx).1
  have hg : p[i - 1]? = some (p[i - 1]'(by omega)) := List.getElem?_eq_getElem _
  have h2 := hb _ (List.mem_of_getElem? hg)
  rw [List.getD_eq_getElem?_getD, hg, Option.getD_some]
  have hxe := (List.getElem?_eq_some_iff.1 hx).2
  have h3 : M.fromL p x 0 = p[i - 1]'(by omega) + 1 := by rw [M.fromL_plan p i x 0 hr hx, if_neg h, List.getD_eq_getElem?_getD, hg, Option.getD_some]
  have h4 := (M.fromL_bd p x 0 (by omega) h1.1 (fun q hq => (hb q hq).1)).2
  omega
theorem M.prevW_succ {p : List Int} {i : Nat} {x : Int} (hx : p[i]? = some x) : M.prevW p (i + 1) = x.toNat + 1 := by
 unfold M.prevW
 rw [if_neg (by omega), Nat.add_sub_cancel, List.getD_eq_getElem?_getD, hx]
 rfl
theorem M.isPlan_take {f : M.Cf} {p : List Int} (hp : M.isPlan f p = true) (k : Nat) : M.isPlan f (p.take k) = true := by
 have hrt : ∀ (l : List Int) (k : Nat), M.rises l = true → M.rises (l.take k) = true := by
  intro l
  induction l with
  | nil => intro k _; simp [M.rises]
  | cons a r ih =>
   intro k h
   cases k with
   | zero => rfl
   | succ k =>
    cases r with
    | nil => simpa using h
    | cons b s =>
     cases k with
     | zero => rfl
     | succ k =>
      rw [show M.rises (a :: b :: s) = (decide (a < b) && M.rises (b :: s)) from rfl, Bool.and_eq_true] at h
      have h2 := ih (k + 1) h.2
      rw [List.take_succ_cons] at h2
      rw [List.take_succ_cons, List.take_succ_cons, show M.rises (a :: b :: s.take k) = (decide (a < b) && M.rises (b :: s.take k)) from rfl, h.1, h2]
      rfl
 unfold M.isPlan at hp ⊢
 simp only [Bool.and_eq_true, decide_eq_true_eq, List.all_eq_true] at hp ⊢
 refine ⟨by rw [List.length_take]; omega, hrt _ _ hp.2.1, fun x hx => hp.2.2 x (List.mem_of_mem_take hx)⟩
theorem M.prevW_take {p : List Int} {i k : Nat} (h : i ≤ k) : M.prevW (p.take k) i = M.prevW p i := by
 unfold M.prevW
 by_cases h0 : i = 0
 ·
  rw [if_pos h0, if_pos h0]
 ·
  rw [if_neg h0, if_neg h0, List.getD_eq_getElem?_getD, List.getD_eq_getElem?_getD, List.getElem?_take, if_pos (by omega)]
theorem M.age_take {p : List Int} {i k : Nat} (h : i < k) : M.age (p.take k) i = M.age p i := by
 have hg : ∀ j, j < k → (p.take k).getD j 0 = p.getD j 0 := fun j hj => by rw [List.getD_eq_getElem?_getD, List.getD_eq_getElem?_getD, List.getElem?_take, if_pos hj]
 unfold M.age
 by_cases h0 : i = 0
 ·
  subst h0; rw [if_pos rfl, if_pos rfl, hg 0 h]
 ·
  rw [if_neg h0, if_neg h0, hg i h, hg (i - 1) (by omega)]
theorem M.crop_take {f : M.Cf} {t u : M.Tr} {p : List Int} (hv : M.valid f = true) (ht : M.listed f t = true) (hu : M.listed f u = true) (hp : M.isPlan f p = true) {i k : Nat} {x : Int} (hi : i < k) (hx : p[i]? = some x)
  (hg : ∀ k, k ≤ x.toNat + 1 → M.upK t.gr k = M.upK u.gr k) (hw : t.wet.getD x.toNat 0 = u.wet.getD x.toNat 0) : M.crop f u (p.take k) i = M.crop f t p i := by
 have := (M.prevW_le hp hx).1
 exact (M.crop_eq hv ht hu hp (M.isPlan_take hp k) hx (by rw [List.getElem?_take, if_pos hi]; exact hx) (M.prevW_take (by omega)).symm (M.age_take hi).symm hg hw (by omega)).symm
theorem M.play_at {f : M.Cf} {t : M.Tr} {p : List Int} {i : Nat} (hi : i < p.length) : (M.play f t p)[i]? = some (M.crop f t p i) := by
 unfold M.play
 rw [List.getElem?_map, List.getElem?_range hi]
 rfl
theorem M.play_take {f : M.Cf} {t : M.Tr} {p : List Int} (hv : M.valid f = true) (ht : M.listed f t = true) (hp : M.isPlan f p = true) (k : Nat) : M.play f t (p.take k) = (M.play f t p).take k := by
 refine List.ext_getElem? (fun i => ?_)
 rw [List.getElem?_take]
 by_cases hi : i < k
 ·
  rw [if_pos hi]
  by_cases hl : i < p.length
  ·
   have hx : p[i]? = some (p[i]'hl) := List.getElem?_eq_getElem _
   rw [M.play_at hl, M.play_at (by rw [List.length_take]; omega), M.crop_take hv ht ht hp hi hx (fun _ _ => rfl) rfl]
  ·
   rw [List.getElem?_eq_none (by rw [M.play_len, List.length_take]; omega), List.getElem?_eq_none (by rw [M.play_len]; omega)]
 ·
  rw [if_neg hi, List.getElem?_eq_none (by rw [M.play_len, List.length_take]; omega)]
/-- A crop's weight, strength and worth. -/
theorem M.crop_parts {f : M.Cf} {t : M.Tr} {p : List Int} (hv : M.valid f = true) (ht : M.listed f t = true) (hp : M.isPlan f p = true) {i : Nat} {x : Int} (hx : p[i]? = some x) :
  (M.crop f t p i).wt = M.leaves f (M.upK t.gr (x.toNat + 1) - M.upK t.gr (M.prevW p i)) (t.wet.getD x.toNat 0 == 1) ∧ 0 ≤ M.upK t.gr (x.toNat + 1) - M.upK t.gr (M.prevW p i) ∧
  M.upK t.gr (x.toNat + 1) ≤ 50 * (x.toNat + 1) ∧ 0 ≤ (M.crop f t p i).wt ∧ (M.crop f t p i).wt ≤ M.upK t.gr (x.toNat + 1) - M.upK t.gr (M.prevW p i) ∧ 0 ≤ (M.crop f t p i).st ∧ (M.crop f t p i).wo = (M.crop f t p i).wt * (M.crop f t p i).st := by
 have hl := M.listed_len hv ht
 have hle := M.prevW_le hp hx
 have hgr := M.listed_gr hv ht
 have h1 := M.left_at hl.1 hp hx
 have hpd : p.getD i 0 = x := by rw [List.getD_eq_getElem?_getD, hx]; rfl
 have hwt : (M.crop f t p i).wt = M.left f t p x := by unfold M.crop; rw [hpd]
 have hd := (M.upK_le hgr (M.prevW p i) (x.toNat + 1) (by omega) (by omega)).1
 have hb := (M.upK_bd hgr (x.toNat + 1) (by omega)).2
 have hlv := M.leaves_le (f := f) ⟨(M.care hv).1, (M.care hv).2.1⟩ (show 0 ≤ M.upK t.gr (x.toNat + 1) - M.upK t.gr (M.prevW p i) by omega) (t.wet.getD x.toNat 0 == 1)
 have hst : 0 ≤ (M.crop f t p i).st := by
  show 0 ≤ M.strength f p i
  unfold M.strength
  omega
 rw [hwt, h1]
 exact ⟨rfl, by omega, by omega, hlv.1, hlv.2, hst, by unfold M.crop; rw [hpd, h1]⟩
theorem M.crop_st {f : M.Cf} {t : M.Tr} {p : List Int} (hv : M.valid f = true) (hp : M.isPlan f p = true) {i : Nat} (hi : i < p.length) : (M.crop f t p i).st ≤ f.base.getD i 0 ∧ f.base.getD i 0 ≤ f.base.getD 0 0 := by
 obtain ⟨hl, _, _⟩ := M.plan_parts hp
 have hc := M.care hv
 unfold M.valid M.validBase at hv
 simp only [Bool.and_eq_true, decide_eq_true_eq, List.all_eq_true] at hv
 obtain ⟨_, ⟨_, hb, hf⟩, _⟩ := hv
 have hbg : ∀ j, j < f.base.length → 0 ≤ f.base.getD j 0 := fun j hj => by
  have := hb _ (List.getElem_mem hj)
  unfold M.holds at this
  simp only [Bool.and_eq_true, decide_eq_true_eq] at this
  rw [List.getD_eq_getElem?_getD, List.getElem?_eq_getElem hj, Option.getD_some]
  exact this.1
 refine ⟨?_, ?_⟩
 ·
  show M.strength f p i ≤ _
  unfold M.strength
  have h1 := hbg i (by omega)
  have h2 : 0 ≤ max 0 (M.age p i - f.ripe) * f.late := Int.mul_nonneg (by omega) (by omega)
  omega
 ·
  have hd : ∀ j, j + 1 < f.base.length → f.base.getD (j + 1) 0 ≤ f.base.getD j 0 := fun j hj => by
   unfold M.falls at hf
   rw [List.all_eq_true] at hf
   exact of_decide_eq_true (hf j (List.mem_range.2 (by omega)))
  have hi2 : i < f.base.length := by omega
  clear hi hl
  induction i with
  | zero => omega
  | succ i ih =>
   have h1 := hd i hi2
   have h2 := ih (by omega)
   omega
end Go.Proofs.Ytffbkbcjddigdaa
