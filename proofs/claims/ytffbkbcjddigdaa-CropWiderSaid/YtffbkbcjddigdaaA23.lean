import Derived.Test.YtffbkbcjddigdaaA20
import Derived.Sort.CutIn
set_option linter.unusedSimpArgs false
set_option linter.unusedVariables false
namespace Go.Proofs.Ytffbkbcjddigdaa
open Go.RowKit Go.Shelf
attribute [local go_sem] Oper.semAt_some

/-- All looks are right. -/
def M.right (f : M.Cf) (t : M.Tr) : Bool := f.looks.all (M.shows (M.weights t.gr f.crops))
def M.truths (f : M.Cf) : List M.Tr := (M.allTruths f).filter (M.right f)
def M.stK (f : M.Cf) : List (List Int) → List M.Tr → List (List Int)
 | acc, [] => acc
 | acc, t :: r => M.stK f (if acc.getLast? = some (M.weights t.gr f.crops) then acc else acc ++ [M.weights t.gr f.crops]) r
def M.stands (f : M.Cf) : List (List Int) := M.stK f [] (M.allTruths f)
theorem M.stK_snoc (f : M.Cf) : ∀ (acc : List (List Int)) (ts : List M.Tr) (t : M.Tr), M.stK f acc (ts ++ [t]) = (if (M.stK f acc ts).getLast? = some (M.weights t.gr f.crops) then M.stK f acc ts else M.stK f acc ts ++ [M.weights t.gr f.crops])
 | _, [], _ => rfl
 | acc, u :: r, t => by
  show M.stK f _ (r ++ [t]) = _
  rw [M.stK_snoc f _ r t]
  rfl
theorem M.stK_len (f : M.Cf) : ∀ (acc : List (List Int)) (ts : List M.Tr), (M.stK f acc ts).length ≤ acc.length + ts.length
 | _, [] => by simp [M.stK]
 | acc, t :: r => by
  unfold M.stK
  refine Nat.le_trans (M.stK_len f _ r) ?_
  split <;> simp <;> omega
theorem M.stK_10 (f : M.Cf) : ∀ (acc : List (List Int)) (ts : List M.Tr), (∀ x ∈ acc, x.length = 10) → (∀ t ∈ ts, t.gr.length ≤ 10) → ∀ x ∈ M.stK f acc ts, x.length = 10
 | _, [], h, _ => h
 | acc, t :: r, h, ht => by
  unfold M.stK
  refine M.stK_10 f _ r ?_ (fun u hu => ht u (by simp [hu]))
  split
  ·
   exact h
  ·
   intro x hx
   rcases List.mem_append.1 hx with hx | hx
   ·
    exact h x hx
   ·
    rw [show x = M.weights t.gr f.crops by simpa using hx]; exact M.weights_len (ht t (by simp))
theorem M.stK_any (f : M.Cf) (p : List Int → Bool) : ∀ (acc : List (List Int)) (ts : List M.Tr), (M.stK f acc ts).any p = (acc.any p || ts.any fun t => p (M.weights t.gr f.crops))
 | acc, [] => by simp [M.stK]
 | acc, t :: r => by
  unfold M.stK
  rw [M.stK_any f p _ r, List.any_cons]
  split
  ·
   rename_i h
   have hm : M.weights t.gr f.crops ∈ acc := List.mem_of_getLast? h
   cases hp : p (M.weights t.gr f.crops) with
   | true => rw [List.any_eq_true.2 ⟨_, hm, hp⟩]; simp
   | false => simp
  ·
   rw [List.any_append]; simp [Bool.or_assoc]
theorem M.stands_any (f : M.Cf) (p : List Int → Bool) : (M.stands f).any p = (M.allTruths f).any fun t => p (M.weights t.gr f.crops) := by
 unfold M.stands; rw [M.stK_any]; simp

/-- The values of a truth. -/
abbrev Td := Hd × Hd
def thc (v : Td) : List Value := [.slice v.1.1 v.1.2.1 v.1.2.2, .slice v.2.1 v.2.2.1 v.2.2.2]
theorem thc_len (ys : List Td) : ∀ y ∈ ys, (thc y).length = 2 := fun _ _ => rfl
theorem thc_one (ys : List Td) : ∀ u ∈ ys.flatMap thc, u.oneCell' = true := by
 intro u hu
 obtain ⟨y, _, hy⟩ := List.mem_flatMap.1 hu
 simp [thc] at hy
 rcases hy with rfl | rfl <;> rfl
def TRow (b0 : Nat) (W : World) (v : Td) (t : M.Tr) : Prop :=
 W.ownsRow b0 3 1 (.slice v.1.1 v.1.2.1 v.1.2.2) v.1.2.1 (t.gr.flatMap ics) ∧ W.ownsRow b0 3 1 (.slice v.2.1 v.2.2.1 v.2.2.2) v.2.2.1 (t.wet.flatMap ics) ∧ v.1.2.1 ≤ 100 ∧ v.2.2.1 ≤ 100
def TRows (b0 : Nat) (W : World) (vs : List Td) (ts : List M.Tr) : Prop := vs.length = ts.length ∧ ∀ (j : Nat) (v : Td) (t : M.Tr), vs[j]? = some v → ts[j]? = some t → TRow b0 W v t
theorem TRows.nil (b0 : Nat) (W : World) : TRows b0 W [] [] := ⟨rfl, fun j v x h => by simp at h⟩
theorem TRow.imp {b0 : Nat} {W W' : World} {v : Td} {t : M.Tr} (h : TRow b0 W v t) (hi : ∀ (u : Value) (n : Nat) (xs : List Value), W.ownsRow b0 3 1 u n xs → W'.ownsRow b0 3 1 u n xs) : TRow b0 W' v t := ⟨hi _ _ _ h.1, hi _ _ _ h.2.1, h.2.2⟩
theorem TRows.imp {b0 : Nat} {W W' : World} {vs : List Td} {ts : List M.Tr} (h : TRows b0 W vs ts) (hi : ∀ (u : Value) (n : Nat) (xs : List Value), W.ownsRow b0 3 1 u n xs → W'.ownsRow b0 3 1 u n xs) : TRows b0 W' vs ts :=
 ⟨h.1, fun j v t hv ht => (h.2 j v t hv ht).imp hi⟩
theorem TRows.ev {b0 : Nat} {W W' : World} {vs : List Td} {ts : List M.Tr} (h : TRows b0 W vs ts) (he : Ev W W') : TRows b0 W' vs ts := h.imp fun _ _ _ h => h.ev he
theorem TRows.base {b0 b1 : Nat} {W : World} {vs : List Td} {ts : List M.Tr} (h : TRows b0 W vs ts) (hb : b1 ≤ b0) : TRows b1 W vs ts :=
 ⟨h.1, fun j v t hv ht => ⟨own_base (h.2 j v t hv ht).1 hb, own_base (h.2 j v t hv ht).2.1 hb, (h.2 j v t hv ht).2.2⟩⟩
theorem TRows.grown {b0 b1 : Nat} {w w' : World} {vs : List Td} {ts : List M.Tr} (h : TRows b0 w vs ts) {e sz n2 : Nat} {v2 : Value} {x2 : List Value} (h2 : w.ownsRow b1 e sz v2 n2 x2) (he : e ≠ 3) (hg : w.grownBy w' v2.ownBlock) : TRows b0 w' vs ts :=
 h.imp fun _ _ _ h => h.kept hg (own_ne (own_base h2 (Nat.zero_le _)) (own_base h (Nat.zero_le _)) he)
theorem TRows.snoc {b0 : Nat} {W : World} {vs : List Td} {xs : List M.Tr} (h : TRows b0 W vs xs) {v : Td} {x : M.Tr} (hx : TRow b0 W v x) : TRows b0 W (vs ++ [v]) (xs ++ [x]) := by
 refine ⟨by simp [h.1], fun j u y hu hy => ?_⟩
 rcases Nat.lt_or_ge j vs.length with hj | hj
 ·
  rw [List.getElem?_append_left hj] at hu
  rw [List.getElem?_append_left (by rw [← h.1]; exact hj)] at hy
  exact h.2 j u y hu hy
 ·
  rw [List.getElem?_append_right hj] at hu
  rw [List.getElem?_append_right (by rw [← h.1]; exact hj), ← h.1] at hy
  have h0 : j - vs.length = 0 := by
   rcases Nat.eq_zero_or_pos (j - vs.length) with h0 | h0
   ·
    exact h0
   ·
    rw [List.getElem?_eq_none (by simp; omega)] at hu; cases hu
  rw [h0] at hu hy
  simp at hu hy
  subst hu hy
  exact hx
theorem own_set {w : World} {base : Nat} {e t : TypeId} {size : Nat} {v : Value} {n : Nat} {xs : List Value} {b j : Nat} {cs : Array Value} {u : Value} (h : w.ownsRow base e size v n xs) (hb : w.heap[b]? = some (.cells cs t (0, 0))) (ht : t ≠ e) : (w.setCell ⟨b, j, none⟩ u).ownsRow base e size v n xs := by
 refine ⟨h.1, ?_⟩
 rcases h.2 with hn | ⟨g, cap, cur, rfl, hbg, hgg, rest⟩
 ·
  exact .inl hn
 ·
  refine .inr ⟨g, cap, cur, rfl, hbg, set_heap hgg ?_, rest⟩
  rintro rfl
  rw [hb] at hgg
  cases hgg
  exact ht rfl
theorem own_mo {P : Program} {kt : TypeId} {w w' : World} {mb : Nat} {g : Value → Option Value} {base : Nat} {e : TypeId} {size : Nat} {v : Value} {n : Nat} {xs : List Value} (h : w.ownsRow base e size v n xs) (hm : MapIs P kt w mb g) (hb : Mo mb w w') : w'.ownsRow base e size v n xs := by
 refine ⟨h.1, ?_⟩
 rcases h.2 with hn | ⟨k, cap, cur, rfl, hbg, hgg, rest⟩
 ·
  exact .inl hn
 ·
  exact .inr ⟨k, cap, cur, rfl, hbg, hb.heap hgg (map_ne hm hgg), rest⟩

/-- A field at work. -/
structure Wc (w : World) (f : M.Cf) (Ag Aw Ab Ac Al : Option Addr) (ng cg nw cw nb cb nc cc nl cl : Nat) (At As : Option Addr) (nt ct ns cs p mb : Nat) (ts : List M.Tr) (ss : List (List Int)) : Prop where
 hd : w.heap[p]? = some (.cells #[.int .i64 f.last, .slice Ag ng cg, .slice Aw nw cw, .slice Ab nb cb, .slice Ac nc cc, .int .i64 f.ripe, .int .i64 f.late, .int .i64 f.trod, .slice Al nl cl, .slice At nt ct, .slice As ns cs, .map (some mb)] 136 (0, 0))
 fd : CS w w.heap.size f Ag Aw Ab Ac Al ng cg nw cw nb cb nc cc nl cl
 tr : ∃ vs : List Td, Sl thc 2 w w.heap.size At nt ct vs ∧ TRows 0 w vs ts
 st : Sl scs 10 w w.heap.size As ns cs ss
 s10 : ∀ x ∈ ss, x.length = 10
 mp : ∃ g, Loads f g ∧ MapIs Try.prog 143 w mb g
 n1 : nt ≤ 2000
 n2 : ns ≤ 2000
theorem Wc.mo {w w' : World} {f : M.Cf} {Ag Aw Ab Ac Al : Option Addr} {ng cg nw cw nb cb nc cc nl cl : Nat} {At As : Option Addr} {nt ct ns cs p mb : Nat} {ts : List M.Tr} {ss : List (List Int)} (h : Wc w f Ag Aw Ab Ac Al ng cg nw cw nb cb nc cc nl cl At As nt ct ns cs p mb ts ss) (hb : Mo mb w w') (hm : ∃ g, Loads f g ∧ MapIs Try.prog 143 w' mb g) : Wc w' f Ag Aw Ab Ac Al ng cg nw cw nb cb nc cc nl cl At As nt ct ns cs p mb ts ss := by
 obtain ⟨g, _, hg⟩ := h.mp
 obtain ⟨vs, hv, hr⟩ := h.tr
 exact ⟨hb.heap h.hd (map_ne hg h.hd), h.fd.mo hg hb, ⟨vs, hv.mo hg hb (Nat.le_refl _) hb.size, hr.imp fun _ _ _ ho => own_mo ho hg hb⟩, h.st.mo hg hb (Nat.le_refl _) hb.size, h.s10, hm, h.n1, h.n2⟩
theorem Wc.ev {w w' : World} {f : M.Cf} {Ag Aw Ab Ac Al : Option Addr} {ng cg nw cw nb cb nc cc nl cl : Nat} {At As : Option Addr} {nt ct ns cs p mb : Nat} {ts : List M.Tr} {ss : List (List Int)} (h : Wc w f Ag Aw Ab Ac Al ng cg nw cw nb cb nc cc nl cl At As nt ct ns cs p mb ts ss) (hb : Ev w w') : Wc w' f Ag Aw Ab Ac Al ng cg nw cw nb cb nc cc nl cl At As nt ct ns cs p mb ts ss := by
 obtain ⟨g, hl, hg⟩ := h.mp
 exact h.mo (Mo.ev hb) ⟨g, hl, hg.keep hb hg.lt⟩

end Go.Proofs.Ytffbkbcjddigdaa

set_option linter.unusedSimpArgs false
set_option linter.unusedVariables false
namespace Go.Proofs.Ytffbkbcjddigdaa
open Go.RowKit Go.Shelf
attribute [local go_sem] Oper.semAt_some

theorem wpAnyR_two {l n : Nat} {P : Program} {ops : Array Oper} {Q : Exit → Act → World → Prop} {md : Region.Mode} {S : World → Prop} {i j : Nat} {oi oj : Oper} {fuel : Nat} {listed : Array Bool} {a : Act} {w : World} (hoi : ops[i]? = some oi) (hoj : ops[j]? = some oj) (hr : Region.ready md ops listed = [i, j]) (hwi : Region.wanted oi (yielded ops a.tmps) = true) (hwj : Region.wanted oj (yielded ops a.tmps) = true)
  (h1 : ∀ K : Act → World → Prop, Hid (∀ a' w', S w' → (S w' → wpAnyR l n P md ops Q S fuel (listed.setIfInBounds i true) a' w') → K a' w') → oi.uponIn (Fence.wide.inRound l) n P a K Q ((execOp a.eval oi).run P w))
  (h2 : ∀ K : Act → World → Prop, Hid (∀ a' w', S w' → (S w' → wpAnyR l n P md ops Q S fuel (listed.setIfInBounds j true) a' w') → K a' w') → oj.uponIn (Fence.wide.inRound l) n P a K Q ((execOp a.eval oj).run P w)) : wpAnyR l n P md ops Q S (fuel + 1) listed a w := by
 refine ⟨fun h0 => (by rw [hr] at h0; cases h0), fun k hk => ?_⟩
 rw [hr] at hk
 rcases List.mem_cons.1 hk with rfl | hk
 ·
  unfold wpOpR
  rw [hoi]
  simp only [hwi, if_true]
  exact h1 _ (fun a' w' hS hk => ⟨hS, hk hS⟩)
 ·
  obtain rfl : k = j := by simpa using hk
  unfold wpOpR
  rw [hoj]
  simp only [hwj, if_true]
  exact h2 _ (fun a' w' hS hk => ⟨hS, hk hS⟩)

theorem own_keep {X Y : World} {c : Nat} {r : Loop} {base : Nat} {e : TypeId} {size : Nat} {v : Value} {n : Nat} {xs : List Value} (h : X.ownsRow base e size v n xs) (hc : X.heap[c]? = some (.loop r)) (hk : ∀ k, k ≠ c → k < X.heap.size → Y.heap[k]? = X.heap[k]?) : Y.ownsRow base e size v n xs := by
 refine ⟨h.1, ?_⟩
 rcases h.2 with hn | ⟨g, cap, cur, rfl, hbg, hgg, rest⟩
 ·
  exact .inl hn
 ·
  refine .inr ⟨g, cap, cur, rfl, hbg, (hk g ?_ (heap_lt hgg)).trans hgg, rest⟩
  rintro rfl
  rw [hc] at hgg
  cases hgg

theorem M.choices_few : ∀ (rs : List M.Rg) (m : Nat), 1 ≤ m → m ≤ 2000 → (∀ r ∈ rs, r.lo ≤ r.hi) → M.tooMany rs m = false → m * (M.choices (rs.map fun r => M.fromTo r.lo (r.hi - r.lo + 1).toNat)).length ≤ 2000
 | [], m, _, h, _, _ => by simpa [M.choices] using h
 | r :: rs, m, h1, h2, hr, ht => by
  have hr1 := hr r (by simp)
  obtain ⟨s, hs⟩ : ∃ s : Nat, r.hi - r.lo + 1 = s := ⟨(r.hi - r.lo + 1).toNat, by omega⟩
  have hs1 : 1 ≤ s := by omega
  rw [List.map_cons, M.choices]
  rw [M.tooMany, hs] at ht
  have hlen : ∀ (l : List Int) (q : List (List Int)), (l.flatMap fun x => q.map (x :: ·)).length = l.length * q.length := by
   intro l q
   induction l with
   | nil => simp
   | cons y t ih => rw [List.flatMap_cons, List.length_append, List.length_map, ih, List.length_cons, Nat.succ_mul]; omega
  rw [hlen, hs, Int.toNat_natCast, M.fromTo_len, ← Nat.mul_assoc]
  split at ht
  ·
   cases ht
  ·
   rename_i hn
   have e : ((m * s : Nat) : Int) = (m : Int) * s := by simp
   rw [← e] at ht hn
   exact M.choices_few rs (m * s) (Nat.mul_pos h1 hs1) (by omega) (fun q hq => hr q (by simp [hq])) ht
theorem M.truths_few {f : M.Cf} (hv : M.valid f = true) (ht : M.tooMany (M.ranges f) 1 = false) : (M.allTruths f).length ≤ 2000 := by
 have h := M.choices_few (M.ranges f) 1 (by omega) (by omega) (fun r hr => by have := M.ranges_bd hv r hr; omega) ht
 unfold M.allTruths M.parts
 rw [List.length_map]
 omega
theorem M.allTruths_len {f : M.Cf} (hv : M.valid f = true) : ∀ t ∈ M.allTruths f, (t.gr.length : Int) = f.last + 1 ∧ (t.wet.length : Int) = f.last + 1 := by
 intro t ht
 obtain ⟨v1, v2, _, v4, _⟩ := M.valid_parts hv
 unfold M.allTruths at ht
 obtain ⟨x, hx, rfl⟩ := List.mem_map.1 ht
 have hl := M.choices_len _ x hx
 rw [M.parts_len] at hl
 have hr : (M.ranges f).length = f.gr.length + f.wet.length := by simp [M.ranges]
 unfold M.cutAt
 simp only [List.length_take, List.length_drop]
 omega
theorem M.fromTo_mem (lo : Int) : ∀ (k : Nat) (x : Int), x ∈ M.fromTo lo k ↔ lo ≤ x ∧ x < lo + k
 | 0, x => by simp [M.fromTo]
 | k + 1, x => by
  rw [M.fromTo, List.mem_append, M.fromTo_mem lo k x]
  simp
  omega
theorem M.choices_mem : ∀ (rs : List M.Rg) (x : List Int), x ∈ M.choices (rs.map fun r => M.fromTo r.lo (r.hi - r.lo + 1).toNat) ↔ M.inAll x rs = true
 | [], x => by
  cases x <;> simp [M.choices, M.inAll]
 | r :: rs, x => by
  rw [List.map_cons, M.choices, List.mem_flatMap]
  cases x with
  | nil => simp [M.inAll]
  | cons y t =>
   rw [M.inAll, Bool.and_eq_true, ← M.choices_mem rs t]
   constructor
   ·
    rintro ⟨z, hz, h⟩
    obtain ⟨u, hu, he⟩ := List.mem_map.1 h
    cases he
    rw [M.fromTo_mem] at hz
    refine ⟨?_, hu⟩
    simp [M.holds]
    omega
   ·
    rintro ⟨h1, h2⟩
    simp [M.holds] at h1
    exact ⟨y, (M.fromTo_mem _ _ _).2 (by omega), List.mem_map.2 ⟨t, h2, rfl⟩⟩
theorem M.mem_allTruths {f : M.Cf} (hv : M.valid f = true) (t : M.Tr) : t ∈ M.allTruths f ↔ M.listed f t = true := by
 obtain ⟨v1, v2, _, v4, _⟩ := M.valid_parts hv
 unfold M.allTruths M.listed M.parts
 rw [List.mem_map]
 simp only [Bool.and_eq_true, decide_eq_true_eq]
 constructor
 ·
  rintro ⟨x, hx, rfl⟩
  have hl := M.choices_len _ x hx
  rw [List.length_map] at hl
  have hr : (M.ranges f).length = f.gr.length + f.wet.length := by simp [M.ranges]
  refine ⟨by unfold M.cutAt; simp only [List.length_take]; omega, by unfold M.cutAt; simp only [List.length_drop]; omega, ?_⟩
  rw [show (M.cutAt (f.last + 1).toNat x).gr ++ (M.cutAt (f.last + 1).toNat x).wet = x from List.take_append_drop _ _]
  exact (M.choices_mem _ _).1 hx
 ·
  rintro ⟨h1, h2, h3⟩
  refine ⟨t.gr ++ t.wet, (M.choices_mem _ _).2 h3, ?_⟩
  have hg : (f.last + 1).toNat = t.gr.length := by omega
  unfold M.cutAt
  rw [hg, List.take_left, List.drop_left]

end Go.Proofs.Ytffbkbcjddigdaa

set_option linter.unusedSimpArgs false
set_option linter.unusedVariables false
namespace Go.Proofs.Ytffbkbcjddigdaa
open Go.RowKit Go.Shelf
attribute [local go_sem] Oper.semAt_some

theorem upon_in {l n : Nat} {P : Program} {o : Oper} {a : Act} {K : Act → World → Prop} {Q : Exit → Act → World → Prop} {r : Result Next} (h : o.upon P a K Q r) : o.uponIn (Fence.wide.inRound l) n P a K Q r := by
 cases r with
 | ok x w' =>
  cases x <;> simp only [Oper.upon, Oper.uponIn] at h ⊢ <;> first
   | exact h
   | exact ⟨fun h => (by cases h), CallsIn.inRound l (callsIn_wide.2 h)⟩
   | exact h.elim
   | exact ⟨fun h => (by cases h), fun c cs _ => let ⟨v, w', r, s⟩ := h c cs; ⟨v, w', r, stepsIn_wide.2 s⟩⟩
 | halt x w' => cases x <;> simp only [Oper.upon, Oper.uponIn] at h ⊢ <;> exact h

theorem wpAnyR_takeD {l n : Nat} {P : Program} {ops : Array Oper} {Q : Exit → Act → World → Prop} {md : Region.Mode} {S : World → Prop} {i : Nat} {oi : Oper} {v : Value} {fuel : Nat} {listed : Array Bool} {a : Act} {w : World} (d : Option Tmp) (hi : ops[i]? = some oi) (hd : oi.dst = d)
  (hs : Region.noSelect ops = true) (hf : Region.free md ops listed i = true) (hr : (Region.ready md ops listed).contains i = true)
  (hQ : ∀ c a w, Q (.panic c) (a.put d v) w → Q (.panic c) a w) (hy : YieldsIf P ops S oi v a) (hS : S w)
  (h : wpAnyR l n P md ops Q S fuel (listed.setIfInBounds i true) (a.put d v) w) : wpAnyR l n P md ops Q S (fuel + 1) listed a w := by
 subst hd
 exact wpAnyR_take hi hs hf hr hQ hy hS h
theorem wpAnyR_skip {l n : Nat} {P : Program} {ops : Array Oper} {Q : Exit → Act → World → Prop} {md : Region.Mode} {S : World → Prop} {i : Nat} {fuel : Nat} {listed : Array Bool} {a : Act} {w : World} (d : Option Tmp) (hi : (ops[i]?).map Oper.dst = some d)
  (hs : Region.noSelect ops = true) (hf : Region.free md ops listed i = true) (hr : (Region.ready md ops listed).contains i = true)
  (hQ : ∀ c a w, Q (.panic c) (a.put d undef) w → Q (.panic c) a w) (hw : (match ops[i]? with | some o => Region.wanted o (yielded ops a.tmps) | none => true) = false) (hS : S w)
  (h : wpAnyR l n P md ops Q S fuel (listed.setIfInBounds i true) (a.put d undef) w) : wpAnyR l n P md ops Q S (fuel + 1) listed a w := by
 cases ho : ops[i]? with
 | none => rw [ho] at hi; cases hi
 | some o =>
  rw [ho] at hi hw
  obtain rfl : o.dst = d := by simpa using hi
  exact wpAnyR_take ho hs hf hr hQ (Or.inr ⟨hw, rfl⟩) hS h

theorem wideWt : (match Try.prog.underlying 111 with | some (.array _ _) | some (.struct _) => true | _ => false) = true := by rw [Try.underlying111]
theorem rowWt : (111 : TypeId) < Try.prog.types.size := by rw [show Try.prog.types.size = 193 from Try.types_size]; decide
set_option maxRecDepth 100000 in
theorem lawWt : Go.WideMaps.KeyLaw Try.prog 111 := deep_law_laid laidOut (m := 2) (by omega) rowWt (by kernel_rfl) wideWt
set_option maxRecDepth 100000 in
theorem keyWt {l : List Int} (hl : l.length = 10) (h : ∀ x ∈ l, Wf x) : ∃ k, keyOf Try.prog 111 (sv l) = some k := by
 obtain ⟨a0, a1, a2, a3, a4, a5, a6, a7, a8, a9, rfl⟩ := list10 hl
 have hk : Try.prog.keyType 111 = true := by kernel_rfl
 have hcl : Try.prog.cellsOf 111 = 10 := by kernel_rfl
 have hc3 : Try.prog.cellsOf 3 = 1 := by kernel_rfl
 have hf : (Value.agg #[Value.int .i64 a0, .int .i64 a1, .int .i64 a2, .int .i64 a3, .int .i64 a4, .int .i64 a5, .int .i64 a6, .int .i64 a7, .int .i64 a8, .int .i64 a9]).formed Try.prog 111 = true := by simp [Value.formed, Try.underlying111, hcl]
 have hsz : Try.prog.types.size = 193 := Try.types_size
 show ∃ k, keyOf Try.prog 111 (.agg #[Value.int .i64 a0, .int .i64 a1, .int .i64 a2, .int .i64 a3, .int .i64 a4, .int .i64 a5, .int .i64 a6, .int .i64 a7, .int .i64 a8, .int .i64 a9]) = some k
 unfold keyOf
 rw [Try.underlying111]
 simp only [hk, hf, Bool.and_self, if_true, hsz]
 unfold Program.keyLits
 rw [Try.underlying111]
 simp [hcl, hc3, Value.cells, show List.range 10 = [0, 1, 2, 3, 4, 5, 6, 7, 8, 9] from rfl, lits3 192 a0 (h _ (by simp)), lits3 192 a1 (h _ (by simp)), lits3 192 a2 (h _ (by simp)), lits3 192 a3 (h _ (by simp)), lits3 192 a4 (h _ (by simp)), lits3 192 a5 (h _ (by simp)), lits3 192 a6 (h _ (by simp)), lits3 192 a7 (h _ (by simp)), lits3 192 a8 (h _ (by simp)), lits3 192 a9 (h _ (by simp))]
set_option maxRecDepth 100000 in
theorem eqWt {x y : List Int} (hx : x.length = 10) (hy : y.length = 10) (wx : ∀ z ∈ x, Wf z) (wy : ∀ z ∈ y, Wf z) (W : World) : (Op.equalIn 10000 111 (sv x) (sv y)).run Try.prog W = .ok (decide (x = y)) W := by
 obtain ⟨kx, hkx⟩ := keyWt hx wx
 obtain ⟨ky, hky⟩ := keyWt hy wy
 obtain ⟨r, hr, hiff⟩ := run_equal_deep (P := Try.prog) W (m := 2) (by omega) (k := 111) (by kernel_rfl) wideWt hkx hky
 have e : r = decide (x = y) := by
  rw [Bool.eq_iff_iff, hiff, decide_eq_true_eq]
  constructor
  ·
   intro h
   rw [h] at hkx
   exact sv_inj (lawWt.inj hkx hky)
  ·
   intro h
   subst h
   rw [hkx] at hky
   exact Option.some.inj hky
 rw [← e]
 exact hr
theorem M.stK_bd (f : M.Cf) : ∀ (acc : List (List Int)) (ts : List M.Tr), (∀ x ∈ acc, ∀ y ∈ x, 0 ≤ y ∧ y ≤ 500) → (∀ t ∈ ts, t.gr.length ≤ 10 ∧ ∀ g ∈ t.gr, 0 ≤ g ∧ g ≤ 50) → ∀ x ∈ M.stK f acc ts, ∀ y ∈ x, 0 ≤ y ∧ y ≤ 500
 | _, [], h, _ => h
 | acc, t :: r, h, ht => by
  unfold M.stK
  refine M.stK_bd f _ r ?_ (fun u hu => ht u (by simp [hu]))
  split
  ·
   exact h
  ·
   intro x hx
   rcases List.mem_append.1 hx with hx | hx
   ·
    exact h x hx
   ·
    rw [show x = M.weights t.gr f.crops by simpa using hx]; exact M.weights_bd (ht t (by simp)).1 (ht t (by simp)).2
/-- What a round of open's loop keeps. -/
structure Kp (B p : Nat) (X Y : World) : Prop where
 os : Y.os = X.os
 tape : Y.tape = X.tape
 output : Y.output = X.output
 size : X.heap.size ≤ Y.heap.size
 block : ∀ k, k < B → k ≠ p → k < X.heap.size → Y.heap[k]? = X.heap[k]?
theorem Kp.refl (B p : Nat) (X : World) : Kp B p X X := ⟨rfl, rfl, rfl, Nat.le_refl _, fun _ _ _ _ => rfl⟩
theorem Kp.trans {B p : Nat} {X Y Z : World} (h : Kp B p X Y) (k : Kp B p Y Z) : Kp B p X Z :=
 ⟨k.os.trans h.os, k.tape.trans h.tape, k.output.trans h.output, Nat.le_trans h.size k.size, fun i h1 h2 h3 => (k.block i h1 h2 (Nat.lt_of_lt_of_le h3 h.size)).trans (h.block i h1 h2 h3)⟩
theorem Kp.ev {B p : Nat} {X Y : World} (h : Ev X Y) : Kp B p X Y := ⟨h.os, h.tape, h.output, h.size, fun k _ _ hk => h.block k hk⟩
theorem Kp.grown {B p : Nat} {X Y : World} {row : Option Nat} (hg : X.grownBy Y row) (hr : ∀ k, row = some k → B ≤ k) : Kp B p X Y :=
 ⟨hg.os, hg.tape, hg.output, hg.size, fun k h1 _ h3 => hg.block k h3 (fun e => by have := hr k e.symm; omega)⟩
theorem Kp.setCell {B p : Nat} (X : World) (j : Nat) (v : Value) : Kp B p X (X.setCell ⟨p, j, none⟩ v) :=
 ⟨rfl, rfl, rfl, by simp [World.setCell], fun k _ h2 _ => Below.heap_setCell _ _ _ _ h2⟩

end Go.Proofs.Ytffbkbcjddigdaa

set_option linter.unusedSimpArgs false
set_option linter.unusedVariables false
namespace Go.Proofs.Ytffbkbcjddigdaa
open Go.RowKit Go.Shelf
attribute [local go_sem] Oper.semAt_some

section
variable {l n c : Nat} {P : Program} {ops : Array Oper} {Q : Exit → Act → World → Prop} {md : Region.Mode} {S T : World → Prop}

/-- As wpAnyR, but nothing is asked behind operation c. -/
def wpAnyC (l n c : Nat) (P : Program) (md : Region.Mode) (ops : Array Oper) (Q : Exit → Act → World → Prop) (S : World → Prop) : Nat → Array Bool → Act → World → Prop
 | 0, listed, a, w => Region.ready md ops listed = [] ∧ Q .normal a w
 | fuel + 1, listed, a, w =>
  (Region.ready md ops listed = [] → Q .normal a w) ∧
  ∀ i ∈ Region.ready md ops listed, wpOpR l n P ops Q i (fun a' w' => (i ≠ c → S w') ∧ wpAnyC l n c P md ops Q S fuel (listed.setIfInBounds i true) a' w') a w

theorem wpAnyC_in (hnd : ∀ (i : Nat) (o : Oper), ops[i]? = some o → ∀ c, o.op ≠ .defer c) : ∀ (fuel : Nat) (listed : Array Bool) (a : Act) (w : World), wpAnyC l n c P md ops Q S fuel listed a w → wpAnyIn (Fence.wide.inRound l) n P md ops Q fuel listed a w
 | 0, _, _, _, h => h
 | fuel + 1, _, _, _, h => ⟨h.1, fun i hi => wpOpR_to hnd (wpOpR_mono (fun a' w' h' => wpAnyC_in hnd fuel _ a' w' h'.2) (h.2 i hi))⟩

theorem wpAnyC_first {i : Nat} {oi : Oper} {v : Value} (hi : ops[i]? = some oi) (hsel : ∀ (j : Nat) (o : Oper) cs b, ops[j]? = some o → o.op ≠ .select cs b)
  (hQ : ∀ c a w, Q (.panic c) (a.put oi.dst v) w → Q (.panic c) a w)
  (hst : ∀ (j : Nat) (oj : Oper) (w' : World), ops[j]? = some oj → (∀ e ∈ oj.after, Region.binds md e = true → e.on ≠ i) → (j ≠ c → S w') → T w') (hTi : ∀ w, T w → (i ≠ c → S w)) :
  ∀ (fuel : Nat) (listed : Array Bool) (a : Act) (w : World),
   (∀ j oj, ops[j]? = some oj → j ≠ i → listed.getD j true = false → (∀ e ∈ oj.after, Region.binds md e = true → e.on ≠ i) → oi.apart ops oj = true) →
   i ∈ Region.ready md ops listed → YieldsIf P ops T oi v a → T w →
   wpAnyC l n c P md ops Q S fuel (listed.setIfInBounds i true) (a.put oi.dst v) w → wpAnyC l n c P md ops Q S (fuel + 1) listed a w := by
 intro fuel
 induction fuel with
 | zero =>
  intro listed a w _ hr hy hS H
  refine ⟨fun h => (by rw [h] at hr; cases hr), fun j hj => ?_⟩
  by_cases hji : j = i
  ·
   subst hji; exact YieldsIf.wpOpR hi hy hS ⟨hTi w hS, H⟩
  ·
   have := ready_mono hj hji
   rw [H.1] at this
   cases this
 | succ fuel ih =>
  intro listed a w hfree hr hy hS H
  refine ⟨fun h => (by rw [h] at hr; cases hr), fun j hj => ?_⟩
  by_cases hji : j = i
  ·
   subst hji; exact YieldsIf.wpOpR hi hy hS ⟨hTi w hS, H⟩
  ·
   have h1 := H.2 j (ready_mono hj hji)
   obtain ⟨hjun, oj, hoj, hall⟩ := mem_ready.1 hj
   have hnot : ∀ e ∈ oj.after, Region.binds md e = true → e.on ≠ i := fun e he hb heq => by
    have h1 := hall e he hb
    have h0 := (mem_ready.1 hr).1
    rw [heq] at h1
    rcases Nat.lt_or_ge i listed.size with h' | h'
    ·
     simp [h'] at h0 h1; rw [h0] at h1; cases h1
    ·
     simp [Array.getElem?_eq_none h'] at h1
   have h2 := wpOpR_putIf hoj (hfree j oj hoj hji hjun hnot) (fun cs b => hsel i oi cs b hi) (fun cs b => hsel j oj cs b hoj) hQ hy h1
   have hfree' : ∀ k ok, ops[k]? = some ok → k ≠ i → (listed.setIfInBounds j true).getD k true = false →
     (∀ e ∈ ok.after, Region.binds md e = true → e.on ≠ i) → oi.apart ops ok = true := fun k ok hk hki hun hno => by
    refine hfree k ok hk hki ?_ hno
    by_cases hjk : j = k
    ·
     subst hjk; exact hjun
    ·
     rw [getD_set_ne true hjk] at hun; exact hun
   refine wpOpR_mono (fun a' w' h3 => ⟨h3.2.1, ih (listed.setIfInBounds j true) a' w' hfree' (ready_mono hr (Ne.symm hji)) h3.1 (hst j oj w' hoj hnot h3.2.1) ?_⟩) h2
   rw [Array.setIfInBounds_comm _ _ hji]
   exact h3.2.2

/-- An operation for which operation c waits. -/
theorem wpAnyC_takeD {i : Nat} {oi oc : Oper} {v : Value} {fuel : Nat} {listed : Array Bool} {a : Act} {w : World} (d : Option Tmp) (hi : ops[i]? = some oi) (hd : oi.dst = d) (hc : ops[c]? = some oc) (hw : (oc.after.any fun e => Region.binds md e && e.on == i) = true)
  (hs : Region.noSelect ops = true) (hf : Region.free md ops listed i = true) (hr : (Region.ready md ops listed).contains i = true)
  (hQ : ∀ c a w, Q (.panic c) (a.put d v) w → Q (.panic c) a w) (hy : YieldsIf P ops S oi v a) (hS : S w)
  (h : wpAnyC l n c P md ops Q S fuel (listed.setIfInBounds i true) (a.put d v) w) : wpAnyC l n c P md ops Q S (fuel + 1) listed a w := by
 subst hd
 refine wpAnyC_first (T := S) hi (Region.noSelect_spec hs) hQ (fun j oj w' hj hno hS' => hS' ?_) (fun w h _ => h) fuel listed a w (Region.free_spec hi hf) (by simpa using hr) hy hS h
 rintro rfl
 rw [hc] at hj
 cases hj
 obtain ⟨e, he, hb⟩ := Array.any_eq_true'.1 hw
 simp only [Bool.and_eq_true, beq_iff_eq] at hb
 exact hno e he hb.1 hb.2

theorem wpAnyC_one {i : Nat} {o : Oper} {fuel : Nat} {listed : Array Bool} {a : Act} {w : World} (ho : ops[i]? = some o) (hr : Region.ready md ops listed = [i]) (hw : Region.wanted o (yielded ops a.tmps) = true) (hic : i ≠ c)
  (h : ∀ K : Act → World → Prop, Hid (∀ a' w', S w' → (S w' → wpAnyC l n c P md ops Q S fuel (listed.setIfInBounds i true) a' w') → K a' w') → o.uponIn (Fence.wide.inRound l) n P a K Q ((execOp a.eval o).run P w)) : wpAnyC l n c P md ops Q S (fuel + 1) listed a w := by
 refine ⟨fun h0 => (by rw [hr] at h0; cases h0), fun j hj => ?_⟩
 rw [hr] at hj
 obtain rfl : j = i := by simpa using hj
 unfold wpOpR
 rw [ho]
 simp only [hw, if_true]
 exact h _ (fun a' w' hS hk => ⟨fun _ => hS, hk hS⟩)

theorem wpAnyC_last {o : Oper} {fuel : Nat} {listed : Array Bool} {a : Act} {w : World} (ho : ops[c]? = some o) (hr : Region.ready md ops listed = [c]) (hw : Region.wanted o (yielded ops a.tmps) = true)
  (h : ∀ K : Act → World → Prop, Hid (∀ a' w', wpAnyC l n c P md ops Q S fuel (listed.setIfInBounds c true) a' w' → K a' w') → o.uponIn (Fence.wide.inRound l) n P a K Q ((execOp a.eval o).run P w)) : wpAnyC l n c P md ops Q S (fuel + 1) listed a w := by
 refine ⟨fun h0 => (by rw [hr] at h0; cases h0), fun j hj => ?_⟩
 rw [hr] at hj
 obtain rfl : j = c := by simpa using hj
 unfold wpOpR
 rw [ho]
 simp only [hw, if_true]
 exact h _ (fun a' w' hk => ⟨fun hn => absurd rfl hn, hk⟩)

theorem wpAnyC_done {listed : Array Bool} {a : Act} {w : World} (hr : Region.ready md ops listed = []) (h : Q .normal a w) : ∀ fuel, wpAnyC l n c P md ops Q S fuel listed a w
 | 0 => ⟨hr, h⟩
 | _ + 1 => ⟨fun _ => h, by rw [hr]; simp⟩

theorem wp_region_C {id : Nat} {a : Act} {w : World} (hm : P.follows .mixedOrders = true) (hnd : ops.toList.all noDefer = true) (hS : S w.drew)
  (h : S w.drew → wpAnyC l n c P .any ops Q S ops.size (Array.replicate ops.size false) a w.drew) : (Code.region id ops true).wpIn (Fence.wide.inRound l) n P Q a w :=
 wpIn_region_any hm (wpAnyC_in (noDefer_spec hnd) _ _ _ _ (h hS))
end

end Go.Proofs.Ytffbkbcjddigdaa
