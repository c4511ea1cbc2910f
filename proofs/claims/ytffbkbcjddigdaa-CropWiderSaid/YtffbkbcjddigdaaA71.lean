import Derived.Test.YtffbkbcjddigdaaA70
set_option linter.unusedSimpArgs false
set_option linter.unusedVariables false
namespace Go.Proofs.Ytffbkbcjddigdaa
open Go.RowKit Go.Shelf

/-- The field of which a week's Wet is not known. -/
def M.wetF (f : M.Cf) (k : Nat) : M.Cf := ⟨f.last, f.gr, f.wet.set k 2, f.base, f.crops, f.ripe, f.late, f.trod, f.looks⟩
/-- The truth with other growth in a week, which is dry. -/
def M.moreT (t : M.Tr) (k : Nat) (g : Int) : M.Tr := ⟨t.gr.set k g, t.wet.set k 0⟩
theorem M.upK_out {gs : List Int} {b : Nat} (h : gs.length ≤ b) : M.upK gs (b + 1) = M.upK gs b := by
 unfold M.upK
 rw [List.take_of_length_le h, List.take_of_length_le (by omega)]
theorem M.upK_more {gs : List Int} {k : Nat} {g x : Int} (hx : gs[k]? = some x) (hg : x ≤ g) (a : Nat) : ∀ b, a ≤ b → M.upK gs b - M.upK gs a ≤ M.upK (gs.set k g) b - M.upK (gs.set k g) a
 | 0, h => by
  obtain rfl : a = 0 := by omega
  omega
 | b + 1, h => by
  rcases Nat.lt_or_ge a (b + 1) with hl | hl
  ·
   have ih := M.upK_more hx hg a b (by omega)
   rcases Nat.lt_or_ge b gs.length with hb | hb
   ·
    have h1 : gs[b]? = some gs[b] := List.getElem?_eq_getElem hb
    rw [M.upK_succ h1]
    by_cases hk : k = b
    ·
     subst hk
     have h2 : (gs.set k g)[k]? = some g := by rw [List.getElem?_set, if_pos rfl, if_pos hb]
     rw [M.upK_succ h2]
     rw [h1] at hx
     have hxe : gs[k] = x := by simpa using hx
     omega
    ·
     have h2 : (gs.set k g)[b]? = some gs[b] := by rw [List.getElem?_set, if_neg hk, h1]
     rw [M.upK_succ h2]
     omega
   ·
    rw [M.upK_out hb, M.upK_out (by rw [List.length_set]; exact hb)]
    exact ih
  ·
   obtain rfl : a = b + 1 := by omega
   omega
theorem M.more_listed {f : M.Cf} {k : Nat} (hv : M.valid (M.wetF f k) = true) {t : M.Tr} (ht : M.listed (M.wetF f k) t = true) {r : M.Rg} (hr : f.gr[k]? = some r) {x g : Int} (hx : t.gr[k]? = some x) (h1 : x ≤ g) (h2 : g ≤ r.hi) : M.listed (M.wetF f k) (M.moreT t k g) = true := by
 have hl := M.listed_len hv ht
 have hw := M.weeks_eq hv
 have hf := (M.valid_parts hv).2.1
 have hk := (M.listed_at (f := M.wetF f k) (t := t) (by omega) (by omega) hw).1 ht
 refine (M.listed_at (by unfold M.moreT; simp; omega) (by unfold M.moreT; simp; omega) hw).2 (fun j hj => ?_)
 intro y q v s hy hq hv2 hs
 unfold M.moreT at hy hv2
 have hjl : j < t.gr.length := by unfold M.moreT at hj; simpa using hj
 have hjw : j < t.wet.length := by omega
 have o1 : t.gr[j]? = some t.gr[j] := List.getElem?_eq_getElem hjl
 have o2 : t.wet[j]? = some t.wet[j] := List.getElem?_eq_getElem hjw
 have ho := hk j hjl _ q _ s o1 hq o2 hs
 by_cases hkj : k = j
 ·
  subst hkj
  rw [List.getElem?_set, if_pos rfl, if_pos hjl] at hy
  rw [List.getElem?_set, if_pos rfl, if_pos hjw] at hv2
  obtain rfl : g = y := by simpa using hy
  obtain rfl : (0 : Int) = v := by simpa using hv2
  obtain rfl : r = q := by rw [show (M.wetF f k).gr = f.gr from rfl, hr] at hq; simpa using hq
  rw [o1] at hx
  have hxe : t.gr[k] = x := by simpa using hx
  have hsz : k < f.wet.length := by
   have := (List.getElem?_eq_some_iff.1 hs).1
   unfold M.wetF at this
   simpa using this
  have hs2 : s = 2 := by
   rw [show (M.wetF f k).wet = f.wet.set k 2 from rfl, List.getElem?_set, if_pos rfl, if_pos hsz] at hs
   simpa using hs.symm
  subst hs2
  refine ⟨?_, by decide⟩
  have h3 := ho.1
  unfold M.holds at h3 ⊢
  simp only [Bool.and_eq_true, decide_eq_true_eq] at h3 ⊢
  omega
 ·
  rw [List.getElem?_set, if_neg hkj, o1] at hy
  rw [List.getElem?_set, if_neg hkj, o2] at hv2
  obtain rfl : t.gr[j] = y := by simpa using hy
  obtain rfl : t.wet[j] = v := by simpa using hv2
  exact ho
/-- With more growth in a week, which is dry, no crop weighs less or is worth less, and each is as strong. -/
theorem M.more_crop {f : M.Cf} {k : Nat} (hv : M.valid f = true) {t : M.Tr} {x g : Int} (ht : M.listed f t = true) (hu : M.listed f (M.moreT t k g) = true) (hx : t.gr[k]? = some x) (h1 : x ≤ g) {p : List Int} (hp : M.isPlan f p = true) {i : Nat} (hi : i < p.length) :
  (M.crop f t p i).wt ≤ (M.crop f (M.moreT t k g) p i).wt ∧ (M.crop f t p i).wo ≤ (M.crop f (M.moreT t k g) p i).wo ∧ (M.crop f (M.moreT t k g) p i).st = (M.crop f t p i).st := by
 have hxi : p[i]? = some (p[i]'hi) := List.getElem?_eq_getElem _
 generalize p[i]'hi = y at hxi
 obtain ⟨c1, c2, _, _, _, c6, c7⟩ := M.crop_parts hv ht hp hxi
 obtain ⟨e1, e2, _, _, _, e6, e7⟩ := M.crop_parts hv hu hp hxi
 have hle := M.prevW_le hp hxi
 have hup := M.upK_more hx h1 (M.prevW p i) (y.toNat + 1) (by omega)
 have hst : (M.crop f (M.moreT t k g) p i).st = (M.crop f t p i).st := rfl
 have hc := M.care hv
 have hwt : (M.crop f t p i).wt ≤ (M.crop f (M.moreT t k g) p i).wt := by
  rw [c1, e1]
  have hup' : M.upK t.gr (y.toNat + 1) - M.upK t.gr (M.prevW p i) ≤ M.upK (M.moreT t k g).gr (y.toNat + 1) - M.upK (M.moreT t k g).gr (M.prevW p i) := hup
  by_cases hky : k = y.toNat
  ·
   have hwl := M.listed_len hv ht
   have hw0 : (M.moreT t k g).wet.getD y.toNat 0 = 0 := by
    unfold M.moreT
    rw [List.getD_eq_getElem?_getD, List.getElem?_set, if_pos hky, if_pos (by omega)]
    rfl
   rw [hw0]
   have h3 := (M.leaves_le (f := f) ⟨hc.1, hc.2.1⟩ c2 (t.wet.getD y.toNat 0 == 1)).2
   have h4 : M.leaves f (M.upK (M.moreT t k g).gr (y.toNat + 1) - M.upK (M.moreT t k g).gr (M.prevW p i)) ((0 : Int) == 1) = M.upK (M.moreT t k g).gr (y.toNat + 1) - M.upK (M.moreT t k g).gr (M.prevW p i) := rfl
   rw [h4]
   omega
  ·
   have hw1 : (M.moreT t k g).wet.getD y.toNat 0 = t.wet.getD y.toNat 0 := by
    unfold M.moreT
    rw [List.getD_eq_getElem?_getD, List.getElem?_set, if_neg hky, List.getD_eq_getElem?_getD]
   rw [hw1]
   exact M.leaves_mono ⟨hc.1, hc.2.1⟩ c2 hup' _
 refine ⟨hwt, ?_, hst⟩
 rw [c7, e7, hst]
 exact Int.mul_le_mul_of_nonneg_right hwt c6
/-- append of a list of any length to a row of one's own. -/
theorem append_any0 {α : Type} {enc : α → List Value} {P : Program} {w : World} {ops : Array Oper} {rest : List Oper} {o : Oper} {a : Act} {Q : Exit → Act → World → Prop} (hgd : o.guard = none) (s x : Operand) (t : TypeId)
  (ho : o.op = .call { callee := .builtin .append, args := #[s, x], argTypes := #[t, t] })
  (base : Nat) (e : TypeId) (i : TypeInfo) (z : Value) (size bytes : Nat) (ht : P.underlying t = some (.slice e)) (hi : P.info? e = some i) (hz : i.zero = some z)
  (hsize : i.size = size) (hby : i.bytes = bytes) (hzs : z.cells.size = size) (hsz : 0 < size)
  (v : Value) (n : Nat) (xs : List Value) (hs : a.eval s = v) (hown : w.ownsRow base e size v n xs)
  (A : Option Addr) (m c : Nat) (ys : List α) (B : Nat) (hx : a.eval x = .slice A m c) (hsl : Sl0 enc size w B A m ys) (henc : ∀ y ∈ ys, (enc y).length = size) (h1 : ∀ u ∈ ys.flatMap enc, u.oneCell' = true)
  (h63 : n + m ≤ maxLen) (hbytes : (n + m) * bytes ≤ 140737488355328) (hbase : base ≤ w.heap.size)
  (h : ∀ v' w', w'.ownsRow base e size v' (n + m) (xs ++ ys.flatMap enc) → w.grownBy w' v.ownBlock → wpList P ops Q rest (a.put o.dst v') w') : wpList P ops Q (o :: rest) a w := by
 cases A with
 | none =>
  have hm : m = 0 := by
   rcases Nat.eq_zero_or_pos m with h | h
   ·
    exact h
   ·
    obtain ⟨b, off, hA, _⟩ := hsl.cells h; cases hA
  subst hm
  obtain rfl : ys = [] := List.eq_nil_of_length_eq_zero hsl.len
  refine wpList_append_none hgd s x t ho base e i size ht hi v n _ hs hown c hx (h v w ?_ ⟨rfl, rfl, rfl, Nat.le_refl _, fun _ _ _ => rfl⟩)
  simpa using hown
 | some ad =>
  exact wpList_append_own w hgd s x t ho base e i z size bytes ht hi hz hsize hby hzs hsz v n xs hs hown ad m c (ys.flatMap enc) hx (by rw [flat_len enc size ys henc, hsl.len]) (sl0_news hsz hsl henc) h1 h63 hbytes hbase fun v' w' h2 h3 _ => h v' w' h2 h3
end Go.Proofs.Ytffbkbcjddigdaa
