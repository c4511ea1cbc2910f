import Derived.Test.YtgimcephbeajlaaC7
import Derived.Sort.CutIn
set_option linter.unusedSimpArgs false
set_option linter.unusedVariables false
namespace Go.Proofs.Ytgimcephbeajlaa
open Go.RowKit Go.Shelf
attribute [local go_sem] Oper.semAt_some

/-- The heats in a truth, with the heap's own turns. -/
def M.own (f : M.Cf) (t : M.Tr) : List Int := M.heats f t f.turns
/-- All readings are right. -/
def M.right (f : M.Cf) (t : M.Tr) : Bool := f.rds.all (M.shows (M.own f t))
def M.truths (f : M.Cf) : List M.Tr := (M.allTruths f).filter (M.right f)
def M.stK (f : M.Cf) : List (List Int) → List M.Tr → List (List Int)
 | acc, [] => acc
 | acc, t :: r => M.stK f (if acc.getLast? = some (M.own f t) then acc else acc ++ [M.own f t]) r
def M.stands (f : M.Cf) : List (List Int) := M.stK f [] (M.allTruths f)
theorem M.stK_snoc (f : M.Cf) : ∀ (acc : List (List Int)) (ts : List M.Tr) (t : M.Tr), M.stK f acc (ts ++ [t]) = (if (M.stK f acc ts).getLast? = some (M.own f t) then M.stK f acc ts else M.stK f acc ts ++ [M.own f t])
 | _, [], _ => rfl
 | acc, u :: r, t => by
  show M.stK f _ (r ++ [t]) = _
  rw [M.stK_snoc f _ r t]
  rfl
theorem M.stK_len (f : M.Cf) : ∀ (acc : List (List Int)) (ts : List M.Tr), (M.stK f acc ts).length ≤ acc.length + ts.length
 | _, [] => by simp [M.stK]
 | acc, t :: r => by
  unfold M.stK
  refine Nat.le_trans (M.stK_len f _ r) ?_
  split <;> simp <;> omega
theorem M.stK_10 (f : M.Cf) : ∀ (acc : List (List Int)) (ts : List M.Tr), (∀ x ∈ acc, x.length = 10) → (∀ t ∈ ts, t.wet.length ≤ 10) → ∀ x ∈ M.stK f acc ts, x.length = 10
 | _, [], h, _ => h
 | acc, t :: r, h, ht => by
  unfold M.stK
  refine M.stK_10 f _ r ?_ (fun u hu => ht u (by simp [hu]))
  split
  ·
   exact h
  ·
   intro x hx
   rcases List.mem_append.1 hx with hx | hx
   ·
    exact h x hx
   ·
    rw [show x = M.own f t by simpa using hx]; exact M.heats_len (ht t (by simp))
theorem M.stK_bd (f : M.Cf) (b : Int) : ∀ (acc : List (List Int)) (ts : List M.Tr), (∀ x ∈ acc, ∀ y ∈ x, 0 ≤ y ∧ y ≤ b) → (∀ t ∈ ts, ∀ y ∈ M.own f t, 0 ≤ y ∧ y ≤ b) → ∀ x ∈ M.stK f acc ts, ∀ y ∈ x, 0 ≤ y ∧ y ≤ b
 | _, [], h, _ => h
 | acc, t :: r, h, ht => by
  unfold M.stK
  refine M.stK_bd f b _ r ?_ (fun u hu => ht u (by simp [hu]))
  split
  ·
   exact h
  ·
   intro x hx
   rcases List.mem_append.1 hx with hx | hx
   ·
    exact h x hx
   ·
    rw [show x = M.own f t by simpa using hx]; exact ht t (by simp)
theorem M.stK_any (f : M.Cf) (p : List Int → Bool) : ∀ (acc : List (List Int)) (ts : List M.Tr), (M.stK f acc ts).any p = (acc.any p || ts.any fun t => p (M.own f t))
 | acc, [] => by simp [M.stK]
 | acc, t :: r => by
  unfold M.stK
  rw [M.stK_any f p _ r, List.any_cons]
  split
  ·
   rename_i h
   have hm : M.own f t ∈ acc := List.mem_of_getLast? h
   cases hp : p (M.own f t) with
   | true => rw [List.any_eq_true.2 ⟨_, hm, hp⟩]; simp
   | false => simp
  ·
   rw [List.any_append]; simp [Bool.or_assoc]
theorem M.stands_any (f : M.Cf) (p : List Int → Bool) : (M.stands f).any p = (M.allTruths f).any fun t => p (M.own f t) := by
 unfold M.stands; rw [M.stK_any]; simp
/-- The values of a truth. -/
abbrev Td := Int × Hd
def thc (v : Td) : List Value := [.int .i64 v.1, .slice v.2.1 v.2.2.1 v.2.2.2]
theorem thc_len (ys : List Td) : ∀ y ∈ ys, (thc y).length = 2 := fun _ _ => rfl
theorem thc_one (ys : List Td) : ∀ u ∈ ys.flatMap thc, u.oneCell' = true := by
 intro u hu
 obtain ⟨y, _, hy⟩ := List.mem_flatMap.1 hu
 simp [thc] at hy
 rcases hy with rfl | rfl <;> rfl
def TRow (b0 : Nat) (W : World) (v : Td) (t : M.Tr) : Prop :=
 v.1 = t.st ∧ W.ownsRow b0 3 1 (.slice v.2.1 v.2.2.1 v.2.2.2) v.2.2.1 (t.wet.flatMap ics) ∧ v.2.2.1 ≤ 100
def TRows (b0 : Nat) (W : World) (vs : List Td) (ts : List M.Tr) : Prop := vs.length = ts.length ∧ ∀ (j : Nat) (v : Td) (t : M.Tr), vs[j]? = some v → ts[j]? = some t → TRow b0 W v t
theorem TRows.nil (b0 : Nat) (W : World) : TRows b0 W [] [] := ⟨rfl, fun j v x h => by simp at h⟩
theorem TRow.imp {b0 : Nat} {W W' : World} {v : Td} {t : M.Tr} (h : TRow b0 W v t) (hi : ∀ (u : Value) (n : Nat) (xs : List Value), W.ownsRow b0 3 1 u n xs → W'.ownsRow b0 3 1 u n xs) : TRow b0 W' v t := ⟨h.1, hi _ _ _ h.2.1, h.2.2⟩
theorem TRows.imp {b0 : Nat} {W W' : World} {vs : List Td} {ts : List M.Tr} (h : TRows b0 W vs ts) (hi : ∀ (u : Value) (n : Nat) (xs : List Value), W.ownsRow b0 3 1 u n xs → W'.ownsRow b0 3 1 u n xs) : TRows b0 W' vs ts :=
 ⟨h.1, fun j v t hv ht => (h.2 j v t hv ht).imp hi⟩
theorem TRows.ev {b0 : Nat} {W W' : World} {vs : List Td} {ts : List M.Tr} (h : TRows b0 W vs ts) (he : Ev W W') : TRows b0 W' vs ts := h.imp fun _ _ _ h => h.ev he
theorem TRows.base {b0 b1 : Nat} {W : World} {vs : List Td} {ts : List M.Tr} (h : TRows b0 W vs ts) (hb : b1 ≤ b0) : TRows b1 W vs ts :=
 ⟨h.1, fun j v t hv ht => ⟨(h.2 j v t hv ht).1, own_base (h.2 j v t hv ht).2.1 hb, (h.2 j v t hv ht).2.2⟩⟩
theorem TRows.grown {b0 b1 : Nat} {w w' : World} {vs : List Td} {ts : List M.Tr} (h : TRows b0 w vs ts) {e sz n2 : Nat} {v2 : Value} {x2 : List Value} (h2 : w.ownsRow b1 e sz v2 n2 x2) (he : e ≠ 3) (hg : w.grownBy w' v2.ownBlock) : TRows b0 w' vs ts :=
 h.imp fun _ _ _ h => h.kept hg (own_ne (own_base h2 (Nat.zero_le _)) (own_base h (Nat.zero_le _)) he)
theorem TRows.snoc {b0 : Nat} {W : World} {vs : List Td} {xs : List M.Tr} (h : TRows b0 W vs xs) {v : Td} {x : M.Tr} (hx : TRow b0 W v x) : TRows b0 W (vs ++ [v]) (xs ++ [x]) := by
 refine ⟨by simp [h.1], fun j u y hu hy => ?_⟩
 rcases Nat.lt_or_ge j vs.length with hj | hj
 ·
  rw [List.getElem?_append_left hj] at hu
  rw [List.getElem?_append_left (by rw [← h.1]; exact hj)] at hy
  exact h.2 j u y hu hy
 ·
  rw [List.getElem?_append_right hj] at hu
  rw [List.getElem?_append_right (by rw [← h.1]; exact hj), ← h.1] at hy
  have h0 : j - vs.length = 0 := by
   rcases Nat.eq_zero_or_pos (j - vs.length) with h0 | h0
   ·
    exact h0
   ·
    rw [List.getElem?_eq_none (by simp; omega)] at hu; cases hu
  rw [h0] at hu hy
  simp at hu hy
  subst hu hy
  exact hx
theorem own_set {w : World} {base : Nat} {e t : TypeId} {size : Nat} {v : Value} {n : Nat} {xs : List Value} {b j : Nat} {cs : Array Value} {u : Value} (h : w.ownsRow base e size v n xs) (hb : w.heap[b]? = some (.cells cs t (0, 0))) (ht : t ≠ e) : (w.setCell ⟨b, j, none⟩ u).ownsRow base e size v n xs := by
 refine ⟨h.1, ?_⟩
 rcases h.2 with hn | ⟨g, cap, cur, rfl, hbg, hgg, rest⟩
 ·
  exact .inl hn
 ·
  refine .inr ⟨g, cap, cur, rfl, hbg, set_heap hgg ?_, rest⟩
  rintro rfl
  rw [hb] at hgg
  cases hgg
  exact ht rfl
theorem own_mo {P : Program} {kt : TypeId} {w w' : World} {mb : Nat} {g : Value → Option Value} {base : Nat} {e : TypeId} {size : Nat} {v : Value} {n : Nat} {xs : List Value} (h : w.ownsRow base e size v n xs) (hm : MapIs P kt w mb g) (hb : Mo mb w w') : w'.ownsRow base e size v n xs := by
 refine ⟨h.1, ?_⟩
 rcases h.2 with hn | ⟨k, cap, cur, rfl, hbg, hgg, rest⟩
 ·
  exact .inl hn
 ·
  exact .inr ⟨k, cap, cur, rfl, hbg, hb.heap hgg (map_ne hm hgg), rest⟩

/-- All but the map and the list of truths is as it was. -/
structure Mt (mb : Nat) (tb : Option Nat) (w w' : World) : Prop where
 os : w'.os = w.os
 tape : w'.tape = w.tape
 output : w'.output = w.output
 size : w.heap.size ≤ w'.heap.size
 block : ∀ k, k < w.heap.size → k ≠ mb → some k ≠ tb → w'.heap[k]? = w.heap[k]?
theorem Mt.refl (mb : Nat) (tb : Option Nat) (w : World) : Mt mb tb w w := ⟨rfl, rfl, rfl, Nat.le_refl _, fun _ _ _ _ => rfl⟩
theorem Mt.trans {mb : Nat} {tb : Option Nat} {a b c : World} (h : Mt mb tb a b) (k : Mt mb tb b c) : Mt mb tb a c :=
 ⟨k.os.trans h.os, k.tape.trans h.tape, k.output.trans h.output, Nat.le_trans h.size k.size, fun i h1 h2 h3 => (k.block i (Nat.lt_of_lt_of_le h1 h.size) h2 h3).trans (h.block i h1 h2 h3)⟩
theorem Mt.mo {mb : Nat} {tb : Option Nat} {a b : World} (h : Mo mb a b) : Mt mb tb a b := ⟨h.os, h.tape, h.output, h.size, fun k h1 h2 _ => h.block k h1 (by simpa using h2)⟩
theorem Mt.ev {mb : Nat} {tb : Option Nat} {a b : World} (h : Ev a b) : Mt mb tb a b := Mt.mo (Mo.ev h)
theorem Mt.heap {mb : Nat} {tb : Option Nat} {a b : World} (h : Mt mb tb a b) {k : Nat} {o : Obj} (hk : a.heap[k]? = some o) (h1 : k ≠ mb) (h2 : some k ≠ tb) : b.heap[k]? = some o := (h.block k (heap_lt hk) h1 h2).trans hk
theorem Mt.evr {mb : Nat} {tb : Option Nat} {a b c : World} (h : Ev a b) (k : Mt mb tb b c) (hm : a.heap.size ≤ mb) (ht : ∀ j, tb = some j → a.heap.size ≤ j) : Ev a c :=
 ⟨k.os.trans h.os, k.tape.trans h.tape, k.output.trans h.output, Nat.le_trans h.size k.size, fun j hj => (k.block j (Nat.lt_of_lt_of_le hj h.size) (by omega) (fun e => by have := ht j e.symm; omega)).trans (h.block j hj)⟩
/-- A heap at work; the map and the list of truths lie above b0. -/
structure Wc (w : World) (f : M.Cf) (Aw At Ar : Option Addr) (nw cw nt ct nr cr : Nat) (Ts Ss : Option Addr) (ns cs ms ds p mb : Nat) (b0 : Nat) (ts : List M.Tr) (ss : List (List Int)) : Prop where
 hd : w.heap[p]? = some (.cells #[.int .i64 f.last, .int .i64 f.size, .int .i64 f.cool, .int .i64 f.die, .int .i64 f.burn, .int .i64 f.st.lo, .int .i64 f.st.hi, .slice Aw nw cw, .slice At nt ct, .slice Ar nr cr, .slice Ts ns cs, .slice Ss ms ds, .map (some mb)] 136 (0, 0))
 fd : CS w b0 f Aw At Ar nw cw nt ct nr cr
 tr : ∃ vs : List Td, w.ownsRow b0 42 2 (.slice Ts ns cs) ns (vs.flatMap thc) ∧ TRows 0 w vs ts
 st : w.ownsRow 0 109 10 (.slice Ss ms ds) ms (ss.flatMap scs)
 s10 : ∀ x ∈ ss, x.length = 10
 mp : ∃ g, Loads f g ∧ MapIs Try.prog 139 w mb g
 n1 : ns ≤ 2000
 n2 : ms ≤ 2000
 b1 : b0 ≤ mb
theorem CS.keep {w w' : World} {B : Nat} {f : M.Cf} {Aw At Ar : Option Addr} {nw cw nt ct nr cr : Nat} (h : CS w B f Aw At Ar nw cw nt ct nr cr) (hb : Below B w w') : CS w' B f Aw At Ar nw cw nt ct nr cr :=
 ⟨h.w_.keep hb (Nat.le_refl _), h.t.keep hb (Nat.le_refl _), h.r.keep hb (Nat.le_refl _)⟩
theorem CS.up {w : World} {B B' : Nat} {f : M.Cf} {Aw At Ar : Option Addr} {nw cw nt ct nr cr : Nat} (h : CS w B f Aw At Ar nw cw nt ct nr cr) (hb : B ≤ B') : CS w B' f Aw At Ar nw cw nt ct nr cr :=
 ⟨h.w_.keep (Below.refl _ _) hb, h.t.keep (Below.refl _ _) hb, h.r.keep (Below.refl _ _) hb⟩
theorem CS.mo {w w' : World} {B : Nat} {f : M.Cf} {Aw At Ar : Option Addr} {nw cw nt ct nr cr : Nat} {mb : Nat} {P : Program} {kt : TypeId} {g : Value → Option Value} (h : CS w B f Aw At Ar nw cw nt ct nr cr) (hm : MapIs P kt w mb g) (hb : Mo mb w w') (hB : B ≤ w.heap.size) : CS w' B f Aw At Ar nw cw nt ct nr cr :=
 ⟨h.w_.mo hm hb hB (Nat.le_refl _), h.t.mo hm hb hB (Nat.le_refl _), h.r.mo hm hb hB (Nat.le_refl _)⟩
theorem Wc.bd {w : World} {f : M.Cf} {Aw At Ar : Option Addr} {nw cw nt ct nr cr : Nat} {Ts Ss : Option Addr} {ns cs ms ds p mb : Nat} {b0 : Nat} {ts : List M.Tr} {ss : List (List Int)} (h : Wc w f Aw At Ar nw cw nt ct nr cr Ts Ss ns cs ms ds p mb b0 ts ss) : b0 ≤ w.heap.size := by
 obtain ⟨g, _, hg⟩ := h.mp
 have := hg.lt
 have := h.b1
 omega
theorem Wc.mo {w w' : World} {f : M.Cf} {Aw At Ar : Option Addr} {nw cw nt ct nr cr : Nat} {Ts Ss : Option Addr} {ns cs ms ds p mb : Nat} {b0 : Nat} {ts : List M.Tr} {ss : List (List Int)} (h : Wc w f Aw At Ar nw cw nt ct nr cr Ts Ss ns cs ms ds p mb b0 ts ss) (hb : Mo mb w w') (hm : ∃ g, Loads f g ∧ MapIs Try.prog 139 w' mb g) : Wc w' f Aw At Ar nw cw nt ct nr cr Ts Ss ns cs ms ds p mb b0 ts ss := by
 obtain ⟨g, _, hg⟩ := h.mp
 obtain ⟨vs, hv, hr⟩ := h.tr
 exact ⟨hb.heap h.hd (map_ne hg h.hd), h.fd.mo hg hb h.bd, ⟨vs, own_mo hv hg hb, hr.imp fun _ _ _ ho => own_mo ho hg hb⟩, own_mo h.st hg hb, h.s10, hm, h.n1, h.n2, h.b1⟩
theorem Wc.fd' {w : World} {f : M.Cf} {Aw At Ar : Option Addr} {nw cw nt ct nr cr : Nat} {Ts Ss : Option Addr} {ns cs ms ds p mb : Nat} {b0 : Nat} {ts : List M.Tr} {ss : List (List Int)} (h : Wc w f Aw At Ar nw cw nt ct nr cr Ts Ss ns cs ms ds p mb b0 ts ss) : CS w w.heap.size f Aw At Ar nw cw nt ct nr cr := h.fd.up h.bd
theorem Wc.st' {w : World} {f : M.Cf} {Aw At Ar : Option Addr} {nw cw nt ct nr cr : Nat} {Ts Ss : Option Addr} {ns cs ms ds p mb : Nat} {b0 : Nat} {ts : List M.Tr} {ss : List (List Int)} (h : Wc w f Aw At Ar nw cw nt ct nr cr Ts Ss ns cs ms ds p mb b0 ts ss) : Sl scs 10 w w.heap.size Ss ms ds ss :=
 sl_own (by decide) (fun x hx => by simpa [scs] using h.s10 x hx) (by have := h.n2; omega) h.st
theorem Wc.ev {w w' : World} {f : M.Cf} {Aw At Ar : Option Addr} {nw cw nt ct nr cr : Nat} {Ts Ss : Option Addr} {ns cs ms ds p mb : Nat} {b0 : Nat} {ts : List M.Tr} {ss : List (List Int)} (h : Wc w f Aw At Ar nw cw nt ct nr cr Ts Ss ns cs ms ds p mb b0 ts ss) (hb : Ev w w') : Wc w' f Aw At Ar nw cw nt ct nr cr Ts Ss ns cs ms ds p mb b0 ts ss := by
 obtain ⟨g, hl, hg⟩ := h.mp
 exact h.mo (Mo.ev hb) ⟨g, hl, hg.keep hb hg.lt⟩

theorem M.choices_few : ∀ (rs : List M.Rg) (m : Nat), 1 ≤ m → m ≤ 2000 → (∀ r ∈ rs, r.lo ≤ r.hi) → M.tooMany rs m = false → m * (M.choices (rs.map fun r => M.fromTo r.lo (r.hi - r.lo + 1).toNat)).length ≤ 2000
 | [], m, _, h, _, _ => by simpa [M.choices] using h
 | r :: rs, m, h1, h2, hr, ht => by
  have hr1 := hr r (by simp)
  obtain ⟨s, hs⟩ : ∃ s : Nat, r.hi - r.lo + 1 = s := ⟨(r.hi - r.lo + 1).toNat, by omega⟩
  have hs1 : 1 ≤ s := by omega
  rw [List.map_cons, M.choices]
  rw [M.tooMany, hs] at ht
  have hlen : ∀ (l : List Int) (q : List (List Int)), (l.flatMap fun x => q.map (x :: ·)).length = l.length * q.length := by
   intro l q
   induction l with
   | nil => simp
   | cons y t ih => rw [List.flatMap_cons, List.length_append, List.length_map, ih, List.length_cons, Nat.succ_mul]; omega
  rw [hlen, hs, Int.toNat_natCast, M.fromTo_len, ← Nat.mul_assoc]
  split at ht
  ·
   cases ht
  ·
   rename_i hn
   have e : ((m * s : Nat) : Int) = (m : Int) * s := by simp
   rw [← e] at ht hn
   exact M.choices_few rs (m * s) (Nat.mul_pos h1 hs1) (by omega) (fun q hq => hr q (by simp [hq])) ht
theorem M.truths_few {f : M.Cf} (hv : M.valid f = true) (ht : M.tooMany (M.ranges f) 1 = false) : (M.allTruths f).length ≤ 2000 := by
 have h := M.choices_few (M.ranges f) 1 (by omega) (by omega) (fun r hr => by have := M.ranges_bd hv r hr; omega) ht
 unfold M.allTruths M.parts
 rw [List.length_map]
 omega
theorem M.fromTo_mem (lo : Int) : ∀ (k : Nat) (x : Int), x ∈ M.fromTo lo k ↔ lo ≤ x ∧ x < lo + k
 | 0, x => by simp [M.fromTo]
 | k + 1, x => by
  rw [M.fromTo, List.mem_append, M.fromTo_mem lo k x]
  simp
  omega
theorem M.choices_mem : ∀ (rs : List M.Rg) (x : List Int), x ∈ M.choices (rs.map fun r => M.fromTo r.lo (r.hi - r.lo + 1).toNat) ↔ M.inAll x rs = true
 | [], x => by
  cases x <;> simp [M.choices, M.inAll]
 | r :: rs, x => by
  rw [List.map_cons, M.choices, List.mem_flatMap]
  cases x with
  | nil => simp [M.inAll]
  | cons y t =>
   rw [M.inAll, Bool.and_eq_true, ← M.choices_mem rs t]
   constructor
   ·
    rintro ⟨z, hz, h⟩
    obtain ⟨u, hu, he⟩ := List.mem_map.1 h
    cases he
    rw [M.fromTo_mem] at hz
    refine ⟨?_, hu⟩
    simp [M.holds]
    omega
   ·
    rintro ⟨h1, h2⟩
    simp [M.holds] at h1
    exact ⟨y, (M.fromTo_mem _ _ _).2 (by omega), List.mem_map.2 ⟨t, h2, rfl⟩⟩
theorem M.inAll_len : ∀ (xs : List Int) (rs : List M.Rg), M.inAll xs rs = true → xs.length = rs.length
 | [], [], _ => rfl
 | [], _ :: _, h => by simp [M.inAll] at h
 | _ :: _, [], h => by simp [M.inAll] at h
 | x :: xs, r :: rs, h => by
  rw [M.inAll, Bool.and_eq_true] at h
  rw [List.length_cons, List.length_cons, M.inAll_len xs rs h.2]
theorem M.mem_allTruths (f : M.Cf) (t : M.Tr) : t ∈ M.allTruths f ↔ M.listed f t = true := by
 unfold M.allTruths M.listed M.parts
 rw [List.mem_map]
 simp only [Bool.and_eq_true, decide_eq_true_eq]
 constructor
 ·
  rintro ⟨x, hx, rfl⟩
  have h := (M.choices_mem _ _).1 hx
  cases x with
  | nil => simp [M.ranges, M.inAll] at h
  | cons y r =>
   unfold M.ranges at h
   rw [M.inAll, Bool.and_eq_true] at h
   exact ⟨h.1, M.inAll_len _ _ h.2, h.2⟩
 ·
  rintro ⟨h1, _, h3⟩
  refine ⟨t.st :: t.wet, (M.choices_mem _ _).2 (by unfold M.ranges; rw [M.inAll, Bool.and_eq_true]; exact ⟨h1, h3⟩), rfl⟩
theorem M.allTruths_len {f : M.Cf} (hv : M.valid f = true) : ∀ t ∈ M.allTruths f, (t.wet.length : Int) = f.last + 1 := by
 intro t ht
 have h := M.listed_bd hv ((M.mem_allTruths f t).1 ht)
 have := M.valid_parts hv
 omega

theorem wideWt : (match Try.prog.underlying 109 with | some (.array _ _) | some (.struct _) => true | _ => false) = true := by rw [Try.underlying109]
theorem rowWt : (109 : TypeId) < Try.prog.types.size := by rw [show Try.prog.types.size = 192 from Try.types_size]; decide
set_option maxRecDepth 100000 in
theorem lawWt : Go.WideMaps.KeyLaw Try.prog 109 := deep_law_laid laidOut (m := 2) (by omega) rowWt (by kernel_rfl) wideWt
set_option maxRecDepth 100000 in
theorem keyWt {l : List Int} (hl : l.length = 10) (h : ∀ x ∈ l, Wf x) : ∃ k, keyOf Try.prog 109 (sv l) = some k := by
 obtain ⟨a0, a1, a2, a3, a4, a5, a6, a7, a8, a9, rfl⟩ := list10 hl
 have hk : Try.prog.keyType 109 = true := by kernel_rfl
 have hcl : Try.prog.cellsOf 109 = 10 := by kernel_rfl
 have hc3 : Try.prog.cellsOf 3 = 1 := by kernel_rfl
 have hf : (Value.agg #[Value.int .i64 a0, .int .i64 a1, .int .i64 a2, .int .i64 a3, .int .i64 a4, .int .i64 a5, .int .i64 a6, .int .i64 a7, .int .i64 a8, .int .i64 a9]).formed Try.prog 109 = true := by simp [Value.formed, Try.underlying109, hcl]
 have hsz : Try.prog.types.size = 192 := Try.types_size
 show ∃ k, keyOf Try.prog 109 (.agg #[Value.int .i64 a0, .int .i64 a1, .int .i64 a2, .int .i64 a3, .int .i64 a4, .int .i64 a5, .int .i64 a6, .int .i64 a7, .int .i64 a8, .int .i64 a9]) = some k
 unfold keyOf
 rw [Try.underlying109]
 simp only [hk, hf, Bool.and_self, if_true, hsz]
 unfold Program.keyLits
 rw [Try.underlying109]
 simp [hcl, hc3, Value.cells, show List.range 10 = [0, 1, 2, 3, 4, 5, 6, 7, 8, 9] from rfl, lits3 191 a0 (h _ (by simp)), lits3 191 a1 (h _ (by simp)), lits3 191 a2 (h _ (by simp)), lits3 191 a3 (h _ (by simp)), lits3 191 a4 (h _ (by simp)), lits3 191 a5 (h _ (by simp)), lits3 191 a6 (h _ (by simp)), lits3 191 a7 (h _ (by simp)), lits3 191 a8 (h _ (by simp)), lits3 191 a9 (h _ (by simp))]
set_option maxRecDepth 100000 in
theorem eqWt {x y : List Int} (hx : x.length = 10) (hy : y.length = 10) (wx : ∀ z ∈ x, Wf z) (wy : ∀ z ∈ y, Wf z) (W : World) : (Op.equalIn 10000 109 (sv x) (sv y)).run Try.prog W = .ok (decide (x = y)) W := by
 obtain ⟨kx, hkx⟩ := keyWt hx wx
 obtain ⟨ky, hky⟩ := keyWt hy wy
 obtain ⟨r, hr, hiff⟩ := run_equal_deep (P := Try.prog) W (m := 2) (by omega) (k := 109) (by kernel_rfl) wideWt hkx hky
 have e : r = decide (x = y) := by
  rw [Bool.eq_iff_iff, hiff, decide_eq_true_eq]
  constructor
  ·
   intro h
   rw [h] at hkx
   exact sv_inj (lawWt.inj hkx hky)
  ·
   intro h
   subst h
   rw [hkx] at hky
   exact Option.some.inj hky
 rw [← e]
 exact hr
end Go.Proofs.Ytgimcephbeajlaa
