/- Contracts of package weed's functions, joined; see each part's theorems. -/
import Derived.Test.YtcecmphdmpeibaaU2
import Derived.OrdersIn
import Derived.OrdersHeld
import Derived.Deep.RegionHeld3

set_option linter.unusedSimpArgs false
set_option linter.unusedVariables false
namespace Go.Proofs.Ytcecmphdmpeibaa
open Go.RowKit Go.Shelf

theorem lets_of {Q : Exit → Act → World → Prop} (h : ∀ a w, ¬ Q .outgrown a w) : ¬ LetsOut Q := by
  rintro ⟨a, w, hl⟩
  exact h a w hl

/-- An operation that is no defer statement goes in a round as in a plain frame. -/
theorem oper_in {P : Program} {l n : Nat} {o : Oper} {a : Act} {w : World} {K : Act → World → Prop} {Q : Exit → Act → World → Prop} (hnd : ∀ c, o.op ≠ .defer c) (h : o.wp P a w K Q) : o.wpIn (Fence.wide.inRound l) n P a w K Q := by
  refine ⟨fun _ _ => trivial, ?_⟩
  rw [Oper.semAt_eq _ _ _ hnd]
  unfold Oper.wp at h
  generalize (execOp a.eval o).run P w = r at h
  cases r with
  | ok x w' =>
    cases x <;> simp only [Oper.upon, Oper.uponIn] at h ⊢ <;> first
      | exact h
      | exact ⟨fun h => (by cases h), CallsIn.inRound l (callsIn_wide.2 h)⟩
      | exact h.elim
      | exact ⟨fun h => (by cases h), fun c cs _ => let ⟨v, w', r, s⟩ := h c cs; ⟨v, w', r, stepsIn_wide.2 s⟩⟩
  | halt x w' => cases x <;> simp only [Oper.upon, Oper.uponIn] at h ⊢ <;> exact h

/-- A region that was walked, whatever its order, with a condition on the world: it goes in a round too. -/
theorem any_in {P : Program} {l n : Nat} {md : Region.Mode} {ops : Array Oper} {Q : Exit → Act → World → Prop} (hnd : ∀ (i : Nat) (o : Oper), ops[i]? = some o → ∀ c, o.op ≠ .defer c) (hlo : ¬ LetsOut Q) : ∀ (fuel : Nat) (listed : Array Bool) (a : Act) (w : World),
    wpAny P md ops Q fuel listed a w → wpAnyIn (Fence.wide.inRound l) n P md ops Q fuel listed a w
  | 0, _, _, _, h => h
  | fuel + 1, listed, a, w, h => ⟨h.1, fun i hi => by
      have h2 := wpOp_mono (fun a' w' h' => any_in (l := l) (n := n) hnd hlo fuel _ a' w' h') (h.2 i hi)
      unfold wpOp at h2
      unfold wpOpIn
      split at h2
      · rename_i ho; simp only [ho]; exact h2
      · rename_i o ho
        simp only [ho]
        split at h2
        · rename_i hw
          rw [if_pos hw]
          rcases h2 with h2 | h2
          · exact oper_in (hnd i o ho) h2
          · exact absurd h2.2 hlo
        · rename_i hw
          rw [if_neg hw]
          exact ⟨fun _ _ => trivial, h2⟩⟩

def noDefer (o : Oper) : Bool := match o.op with
  | .defer _ => false
  | _ => true
theorem noDefer_spec {ops : Array Oper} (h : ops.toList.all noDefer = true) : ∀ (i : Nat) (o : Oper), ops[i]? = some o → ∀ c, o.op ≠ .defer c := by
  intro i o ho c hc
  have hm : o ∈ ops.toList := by
    rw [← Array.getElem?_toList] at ho
    exact List.mem_of_getElem? ho
  have := List.all_eq_true.1 h o hm
  simp [noDefer, hc] at this

theorem held_in {P : Program} {l n id : Nat} {ops : Array Oper} {Q : Exit → Act → World → Prop} {S : World → Prop} {a : Act} {w : World} (hm : P.follows .mixedOrders = true) (hnd : ops.toList.all noDefer = true) (hlo : ∀ a w, ¬ Q .outgrown a w)
    (hS : S w.drew) (h : S w.drew → wpAnyH P .any ops Q S ops.size (Array.replicate ops.size false) a w.drew) : (Code.region id ops true).wpIn (Fence.wide.inRound l) n P Q a w :=
  wpIn_region_any hm (any_in (noDefer_spec hnd) (lets_of hlo) _ _ _ _ (wpAny_of_held _ _ _ _ (h hS)))

end Go.Proofs.Ytcecmphdmpeibaa

namespace Go.Proofs.Ytcecmphdmpeibaa
open Go.RowKit Go.Shelf
attribute [local go_sem] Oper.semAt_some

def M.noFault : List Bool := [false, false, false, false, false]
def M.rights (f : M.Fl) (ss : List (List Int)) : List (List Int) := ss.filter fun s => decide (M.wrong f s = M.noFault)
def M.sees (f : M.Fl) : List (List Bool) → List (List Int) → List (List Bool)
  | acc, [] => acc
  | acc, s :: r => M.sees f (if acc.any (fun x => decide (M.wrong f s = x)) then acc else acc ++ [M.wrong f s]) r
theorem M.sees_snoc (f : M.Fl) : ∀ (acc : List (List Bool)) (ss : List (List Int)) (s : List Int), M.sees f acc (ss ++ [s]) = (if (M.sees f acc ss).any (fun x => decide (M.wrong f s = x)) then M.sees f acc ss else M.sees f acc ss ++ [M.wrong f s])
  | _, [], _ => rfl
  | acc, t :: r, s => by
    show M.sees f _ (r ++ [s]) = _
    rw [M.sees_snoc f _ r s]
    rfl
theorem M.sees_len (f : M.Fl) : ∀ (acc : List (List Bool)) (ss : List (List Int)), (M.sees f acc ss).length ≤ acc.length + ss.length
  | _, [] => by simp [M.sees]
  | acc, s :: r => by
    unfold M.sees
    refine Nat.le_trans (M.sees_len f _ r) ?_
    split <;> simp <;> omega
theorem M.wrong_len (f : M.Fl) (s : List Int) : (M.wrong f s).length = 5 := rfl
theorem M.sees_5 (f : M.Fl) : ∀ (acc : List (List Bool)) (ss : List (List Int)), (∀ x ∈ acc, x.length = 5) → ∀ x ∈ M.sees f acc ss, x.length = 5
  | _, [], h => h
  | acc, s :: r, h => by
    unfold M.sees
    refine M.sees_5 f _ r ?_
    split
    · exact h
    · intro x hx
      rcases List.mem_append.1 hx with hx | hx
      · exact h x hx
      · rw [show x = M.wrong f s by simpa using hx]; rfl

theorem M.fill_7 (f : M.Fl) (D : Nat) : ∀ (j : Nat) (pre : List Int), pre.length + j ≤ 7 → ∀ x ∈ M.fill f D j pre, x.length = 7
  | 0, pre, h, x, hx => by
    unfold M.fill at hx
    split at hx
    · rw [show x = M.pad pre by simpa using hx]; exact M.pad_len (by omega)
    · simp at hx
  | j + 1, pre, h, x, hx => by
    unfold M.fill at hx
    obtain ⟨k, _, hx⟩ := List.mem_flatMap.1 hx
    exact M.fill_7 f D j _ (by simp; omega) x hx
theorem len_flat {α β : Type} (g : α → List β) (m : Nat) : ∀ (l : List α), (∀ x ∈ l, (g x).length ≤ m) → (l.flatMap g).length ≤ l.length * m
  | [], _ => by simp
  | x :: r, h => by
    rw [List.flatMap_cons, List.length_append, List.length_cons, Nat.succ_mul]
    have := len_flat g m r (fun y hy => h y (by simp [hy]))
    have := h x (by simp)
    omega
theorem M.fill_few (f : M.Fl) (D : Nat) : ∀ (j : Nat) (pre : List Int), (M.fill f D j pre).length ≤ (D + 1) ^ j
  | 0, pre => by unfold M.fill; split <;> simp
  | j + 1, pre => by
    unfold M.fill
    refine Nat.le_trans (len_flat _ ((D + 1) ^ j) _ (fun k _ => M.fill_few f D j _)) ?_
    rw [List.length_range', Nat.pow_succ, Nat.mul_comm]
    exact Nat.le_refl _
theorem M.fill_max (f : M.Fl) (D j : Nat) (hD : D ≤ 3) (hj : j ≤ 7) (pre : List Int) : (M.fill f D j pre).length ≤ 16384 :=
  Nat.le_trans (M.fill_few f D j pre) (Nat.le_trans (Nat.pow_le_pow_left (show D + 1 ≤ 4 by omega) j) (Nat.pow_le_pow_right (by decide) hj))

theorem frz5 {W : World} {b : Nat} {cs : Array Value} {t : TypeId} (h : W.heap[b]? = some (.cells cs t (0, 0))) : W.frozen? ⟨b, 0, none⟩ = false ∧ W.frozen? ⟨b, 1, none⟩ = false ∧ W.frozen? ⟨b, 2, none⟩ = false ∧ W.frozen? ⟨b, 3, none⟩ = false ∧ W.frozen? ⟨b, 4, none⟩ = false :=
  ⟨frozen_in h 0, frozen_in h 1, frozen_in h 2, frozen_in h 3, frozen_in h 4⟩
theorem set5 {W : World} {b : Nat} {t : TypeId} {z0 z1 z2 z3 z4 v0 v1 v2 v3 v4 : Value} (h : W.heap[b]? = some (.cells #[z0, z1, z2, z3, z4] t (0, 0))) :
    (((((W.setCell ⟨b, 0, none⟩ v0).setCell ⟨b, 1, none⟩ v1).setCell ⟨b, 2, none⟩ v2).setCell ⟨b, 3, none⟩ v3).setCell ⟨b, 4, none⟩ v4).heap[b]? = some (.cells #[v0, v1, v2, v3, v4] t (0, 0)) := by
  have h1 := set_heap_same (j := 0) (v := v0) h
  have h2 := set_heap_same (j := 1) (v := v1) h1
  have h3 := set_heap_same (j := 2) (v := v2) h2
  have h4 := set_heap_same (j := 3) (v := v3) h3
  have h5 := set_heap_same (j := 4) (v := v4) h4
  rw [h5]
  simp

theorem own_ne {X : World} {B e1 e2 s1 s2 n1 n2 : Nat} {v1 v2 : Value} {x1 x2 : List Value} (h1 : X.ownsRow B e1 s1 v1 n1 x1) (h2 : X.ownsRow B e2 s2 v2 n2 x2) (hne : e1 ≠ e2) : v2.ownBlock = none ∨ v2.ownBlock ≠ v1.ownBlock := by
  rcases h2.2 with ⟨rfl, _⟩ | ⟨g, cap, cur, rfl, _, hg, _⟩
  · exact .inl rfl
  · right
    rcases h1.2 with ⟨rfl, _⟩ | ⟨g1, cap1, cur1, rfl, _, hg1, _⟩
    · simp [Value.ownBlock]
    · simp only [Value.ownBlock, ne_eq, Option.some.injEq]
      rintro rfl
      rw [hg] at hg1
      simp only [Option.some.injEq, Obj.cells.injEq] at hg1
      exact hne hg1.2.1.symm

theorem ownsRow_fresh {B : Nat} {X Y : World} {e : TypeId} {size : Nat} {v : Value} {n : Nat} {xs : List Value} (h : X.ownsRow B e size v n xs) (hb : ∀ k, B ≤ k → k < X.heap.size → Y.heap[k]? = X.heap[k]?) : Y.ownsRow B e size v n xs := by
  refine ⟨h.1, ?_⟩
  rcases h.2 with hn | ⟨g, cap, cur, rfl, hbg, hgg, rest⟩
  · exact .inl hn
  · exact .inr ⟨g, cap, cur, rfl, hbg, (hb g hbg (heap_lt hgg)).trans hgg, rest⟩

theorem sl_own {α : Type} {enc : α → List Value} {sz : Nat} {w : World} {base : Nat} {e : TypeId} {V : Option Addr} {n c : Nat} {xs : List α} (hsz : 0 < sz) (henc : ∀ x ∈ xs, (enc x).length = sz) (hsm : n ≤ 1099511627776)
    (h : w.ownsRow base e sz (.slice V n c) n (xs.flatMap enc)) : Sl enc sz w w.heap.size V n c xs := by
  obtain ⟨A, c', he, hs⟩ := Sl.of_own hsz henc hsm h
  injection he with h1 _ h2
  subst h1 h2
  exact hs

set_option maxRecDepth 100000 in
set_option maxHeartbeats 4000000 in
theorem open_in (f : M.Fl) (A : Option Addr) (n c : Nat) (rs D : Nat) (hrs : f.rows = rs) (hD' : f.wds = D) (h1 : 1 ≤ rs) (h7 : rs ≤ 7) (hd1 : 1 ≤ D) (hD3 : D ≤ 3) (w : World) (hs : Sl tcs 5 w w.heap.size A n c f.ts) (hn : n ≤ 5) (hv : ∀ t ∈ f.ts, M.VT t) :
    CallsIn Fence.wide 9 Try.prog 91 #[fv f (.slice A n c)] w fun e w' => (∃ p A1 A2 c1 c2, e = .returned (.pointer (some ⟨p, 0, none⟩)) ∧
      ∀ Y, Sl tcs 5 Y Y.heap.size A n c f.ts → (∀ k, w.heap.size ≤ k → k < w'.heap.size → Y.heap[k]? = w'.heap[k]?) → Wk Y p f (M.rights f (M.fill f D rs [])) (M.sees f [] (M.fill f D rs [])) A A1 A2 n c (M.rights f (M.fill f D rs [])).length c1 (M.sees f [] (M.fill f D rs [])).length c2) ∧ Ev w w' := by
  have hdd : ∀ k : Nat, (Fence.wide.depth.isSome = true → 1 ≤ k) := fun k h => by cases h
  have hal := fun W' => (callsIn_wide (n := 8)).2 (allowed_c f A n c W')
  unfold fv at hal ⊢
  rw [hrs, hD'] at hal ⊢
  have HAL := hid hal
  clear hal
  refine callsIn_of_wp_marks Try.func91 rfl trivial ?_ rfl
  simp only [Try.ntmps91, List.size_toArray, List.length_cons, List.length_nil, Nat.reduceAdd, Nat.reduceSub, Array.replicate_succ, Array.replicate_zero, List.push_toArray, List.append_toArray, List.nil_append, List.cons_append]
  have hal := alloc3 w (.cells #[.int .i64 rs, .int .i64 D, .int .i64 f.lf.lo, .int .i64 f.lf.hi, .slice A n c] 36) (.cells #[.int .i64 rs, .int .i64 D, .int .i64 f.lf.lo, .int .i64 f.lf.hi, .slice A n c, .slice none 0 0, .slice none 0 0] 127) (.cells #[.pointer (some ⟨w.heap.size + 1, 0, none⟩)] 108)
  have HL := hid hal
  clear hal
  gi_wp2_with ((first | refine ⟨trivial, hdd _, ?_⟩ | refine ⟨trivial, ?_⟩ | skip); gi_at_call 117; with_reducible refine (HAL.out _).mono ?_; rintro e W1 ⟨rfl, hE1, hq1⟩)
  generalize hW0 : World.alloc (World.alloc (World.alloc w _) _) _ = W0 at hE1 hq1 HL ⊢
  have hE0 : Ev w W0 := by rw [← hW0]; exact Ev.alloc (Ev.alloc (Ev.alloc (Ev.refl _) _) _) _
  obtain ⟨_, Q1, Q2, hz⟩ := HL.out
  have hEw := hE0.trans hE1
  have hK1 := hid (hE1.heap Q1)
  have hK2 := hid (hE1.heap Q2)
  have hs1 := hE1.size
  have hq1l := heap_lt hq1
  have hws : w.heap.size + 3 ≤ W1.heap.size := by omega
  clear HL hW0 Q1 Q2
  rw [hz] at hq1 hq1l
  have hq2 : W1.heap[w.heap.size + 3]? = some (.cells #[.int .i64 f.rows, .int .i64 f.wds, .int .i64 f.lf.lo, .int .i64 f.lf.hi, .slice A n c] 36 (0, 0)) := by rw [hrs, hD']; exact hq1
  have hmax := M.fill_max f D rs hD3 h7 []
  have hxs7 := M.fill_7 f D rs [] (by simpa using h7)
  refine rangeX (F := Fence.wide) (n := 9) rfl (by omega) (gf := 128) (lb := #[.pointer (some ⟨w.heap.size + 3, 0, none⟩)]) rfl trivial (fun args w => Try.call128 args w)
    (fill_seq 8 (w.heap.size + 3) A n c f rs D hrs hD' h1 h7 hD3 W1 hq2) (Below.refl _ _) (fun j hj => by subst hj; exact hq1l) (fun _ => rfl) (fun _ _ _ _ _ h _ => h)
    (fun B pre X => Bar (w.heap.size + 1) (w.heap.size + 2) W1 X ∧ ∃ v1 v2, X.heap[w.heap.size + 1]? = some (.cells #[.int .i64 rs, .int .i64 D, .int .i64 f.lf.lo, .int .i64 f.lf.hi, .slice A n c, v1, v2] 127 (0, 0)) ∧ X.ownsRow B 101 7 v1 (M.rights f pre).length ((M.rights f pre).flatMap scs) ∧ X.ownsRow B 105 5 v2 (M.sees f [] pre).length ((M.sees f [] pre).flatMap fcs))
    (fun _ _ _ _ => False)
    (fun B x a' X => ∃ q, B ≤ q ∧ X.heap[q]? = some (.cells (x.map (Value.int .i64)).toArray 101 (0, 0)) ∧ a' = { tmps := #[.agg #[.int .i64 rs, .int .i64 D, .int .i64 f.lf.lo, .int .i64 f.lf.hi, .slice A n c], .pointer (some ⟨w.heap.size, 0, none⟩), .pointer none, .pointer (some ⟨w.heap.size + 1 + 1, 0, none⟩), .pointer (some ⟨q, 0, none⟩), undef, .agg #[.int .i64 rs, .int .i64 D, .int .i64 f.lf.lo, .int .i64 f.lf.hi, .slice A n c], .agg #[.int .i64 rs, .int .i64 D, .int .i64 f.lf.lo, .int .i64 f.lf.hi, .slice A n c, .slice none 0 0, .slice none 0 0], .pointer (some ⟨w.heap.size + 1, 0, none⟩), .pointer (some ⟨w.heap.size + 1, 0, none⟩), .pointer (some ⟨w.heap.size + 1, 0, none⟩), .pointer (some ⟨w.heap.size + 1, 0, none⟩), .agg #[.int .i64 rs, .int .i64 D, .int .i64 f.lf.lo, .int .i64 f.lf.hi, .slice A n c], .func (.func 128) #[] #[.pointer (some ⟨w.heap.size + 1 + 1 + 1, 0, none⟩)], sv x, undef, undef, undef, undef, undef, undef, undef, undef, undef, undef, undef, undef, undef, undef, undef, undef, undef, undef, undef, undef, undef, undef, undef, undef, undef, undef, undef, undef, undef, undef, undef, undef, undef, undef, undef, undef, undef], defers := [] })
    (fun B s x y hB h hb => by
      obtain ⟨h1, v1, v2, h2, h3, h4⟩ := h
      refine ⟨⟨hb.os.trans h1.os, hb.tape.trans h1.tape, hb.output.trans h1.output, Nat.le_trans h1.size hb.size, fun j hj hn => (hb.block j (by have := h1.size; omega) (by omega)).trans (h1.block j hj hn)⟩, v1, v2, (hb.block _ (heap_lt h2) (by omega)).trans h2, ownsRow_bar h3 hb, ownsRow_bar h4 hb⟩)
    (fun _ _ _ _ _ _ h _ => h)
    (fun a' B s x y hB h hb => by
      obtain ⟨q, hq, hc, ha⟩ := h
      exact ⟨q, hq, (hb.block q (heap_lt hc) (by omega)).trans hc, ha⟩)
    (fun X hX => ⟨Bar.ev hX, .slice none 0 0, .slice none 0 0, hX.heap hK1.out, World.ownsRow_nil _ _ _ _, World.ownsRow_nil _ _ _ _⟩) ?assign ?body ?done ?stop
  case assign =>
    intro l B pre x X K hB hBX hI hx hK
    obtain ⟨b0, b1, b2, b3, b4, b5, b6, hxe⟩ := list7 hx
    have hsv : sv x = .agg #[.int .i64 b0, .int .i64 b1, .int .i64 b2, .int .i64 b3, .int .i64 b4, .int .i64 b5, .int .i64 b6] := by rw [hxe]; rfl
    have hcs : (x.map (Value.int .i64)).toArray = #[.int .i64 b0, .int .i64 b1, .int .i64 b2, .int .i64 b3, .int .i64 b4, .int .i64 b5, .int .i64 b6] := by rw [hxe]; rfl
    simp only [hcs, hsv] at hK
    have HK := hid hK
    unfold sheE
    rw [hsv]
    clear hK hsv hcs hxe hx hI
    gi_wp2
    exact HK.out _ _ (Ev.alloc (Ev.refl _) _) ⟨X.heap.size, hBX, (alloc1 X _).1, rfl⟩
  case body =>
    rintro l B pre x a' X hB hBX ⟨hbar, v1, v2, hwb, hr1, hr2⟩ ⟨q, hq, hc, rfl⟩ hx7 hpre
    have hXs := hbar.size
    have hprel : (pre ++ [x]).length ≤ 16384 := Nat.le_trans hpre.length_le hmax
    simp only [List.length_append, List.length_cons, List.length_nil] at hprel
    have hl1 : (M.rights f pre).length ≤ pre.length := List.length_filter_le _ _
    have hl2 : (M.sees f [] pre).length ≤ pre.length := by simpa using M.sees_len f [] pre
    have hx5 := M.sees_5 f [] pre (by simp)
    have hxr7 : ∀ y ∈ M.rights f pre, y.length = 7 := fun y hy => hxs7 y (hpre.subset (List.mem_append.2 (.inl (List.mem_filter.1 hy).1)))
    have hpb := (hbar.block _ (heap_lt hK2.out) (by omega)).trans hK2.out
    have p0 := cell_in hpb 0
    simp only [List.getElem?_toArray, List.getElem?_cons_zero] at p0
    obtain ⟨k0, k1, k2, k3, k4, k5, k6⟩ := cells7 hwb
    have hEX : Below w.heap.size w X := Below.trans hEw (hbar.below (by omega) (by omega))
    obtain ⟨b0, b1, b2, b3, b4, b5, b6, hxe⟩ := list7 hx7
    have hsv : sv x = .agg #[.int .i64 b0, .int .i64 b1, .int .i64 b2, .int .i64 b3, .int .i64 b4, .int .i64 b5, .int .i64 b6] := by rw [hxe]; rfl
    have hcs : (x.map (Value.int .i64)).toArray = #[.int .i64 b0, .int .i64 b1, .int .i64 b2, .int .i64 b3, .int .i64 b4, .int .i64 b5, .int .i64 b6] := by rw [hxe]; rfl
    have hwr := fun W (hE : Ev X W) => wrong_c f A n c x hx7 W (hs.ev (Below.trans hEX (Below.evr hE hEX.size))) hn hv
    obtain ⟨z0, z1, z2, z3, z4, hze⟩ := list5 (M.wrong_len f x)
    have hbv : bv (M.wrong f x) = .agg #[.bool z0, .bool z1, .bool z2, .bool z3, .bool z4] := by rw [hze]; rfl
    rw [hbv, hsv] at hwr
    unfold fv at hwr
    rw [hrs, hD'] at hwr
    rw [hcs] at hc
    rw [hsv]
    obtain ⟨s0, s1, s2, s3, s4, s5, s6⟩ := cells7 hc
    have hql := heap_lt hc
    have hwl := heap_lt hwb
    have hpl := heap_lt hpb
    have HWR := hid hwr
    have HZE := hid hze
    have HXE := hid hxe
    clear hwr hbv hsv hcs hze hxe
    gi_wp2
    refine Code.wpIn_mono (Q := fun e a' W' => e = .normal ∧ ∃ r, (Ev X W' ∧ X.heap.size ≤ r ∧ W'.heap[r]? = some (.cells #[.bool z0, .bool z1, .bool z2, .bool z3, .bool z4] 105 (0, 0))) ∧ a' = { tmps := #[.agg #[.int .i64 rs, .int .i64 D, .int .i64 f.lf.lo, .int .i64 f.lf.hi, .slice A n c], .pointer (some ⟨w.heap.size, 0, none⟩), .pointer none, .pointer (some ⟨w.heap.size + 1 + 1, 0, none⟩), .pointer (some ⟨q, 0, none⟩), .pointer (some ⟨r, 0, none⟩), .agg #[.int .i64 rs, .int .i64 D, .int .i64 f.lf.lo, .int .i64 f.lf.hi, .slice A n c], .agg #[.int .i64 rs, .int .i64 D, .int .i64 f.lf.lo, .int .i64 f.lf.hi, .slice A n c, .slice none 0 0, .slice none 0 0], .pointer (some ⟨w.heap.size + 1, 0, none⟩), .pointer (some ⟨w.heap.size + 1, 0, none⟩), .pointer (some ⟨w.heap.size + 1, 0, none⟩), .pointer (some ⟨w.heap.size + 1, 0, none⟩), .agg #[.int .i64 rs, .int .i64 D, .int .i64 f.lf.lo, .int .i64 f.lf.hi, .slice A n c], .func (.func 128) #[] #[.pointer (some ⟨w.heap.size + 1 + 1 + 1, 0, none⟩)], .agg #[.int .i64 b0, .int .i64 b1, .int .i64 b2, .int .i64 b3, .int .i64 b4, .int .i64 b5, .int .i64 b6], .pointer (some ⟨w.heap.size + 1, 0, none⟩), .pointer (some ⟨w.heap.size + 1, 0, none⟩), .pointer (some ⟨w.heap.size + 1, 0, none⟩), .agg #[.int .i64 rs, .int .i64 D, .int .i64 f.lf.lo, .int .i64 f.lf.hi, .slice A n c], .agg #[.int .i64 b0, .int .i64 b1, .int .i64 b2, .int .i64 b3, .int .i64 b4, .int .i64 b5, .int .i64 b6], .agg #[.bool z0, .bool z1, .bool z2, .bool z3, .bool z4], undef, undef, undef, undef, undef, undef, undef, undef, undef, undef, undef, undef, undef, undef, undef, undef, undef, undef, undef, undef, undef, undef, undef, undef, undef, undef, undef, undef, undef, undef, undef], defers := [] }) ?cont4 ?reg4
    case reg4 =>
      have HSE : Hid (∀ w', Ev X w' → Ev X w' ∧ (∀ b o, b < X.heap.size → w'.cell? ⟨b, o, none⟩ = X.cell? ⟨b, o, none⟩)) := hid (fun w' h => ⟨h, fun b o hb => h.cells.1 b o hb⟩)
      refine held_in (S := fun w' => Ev X w' ∧ (∀ b o, b < X.heap.size → w'.cell? ⟨b, o, none⟩ = X.cell? ⟨b, o, none⟩)) (by kernel_rfl) rfl (fun _ _ h => by cases h.1) ⟨Ev.drew (Ev.refl X), fun b o hb => rfl⟩ (fun hHeld => ?_)
      refine wpAnyH_take (i := 0) (v := ?_) rfl (by kernel_rfl) (by kernel_rfl) (by kernel_rfl) (fun _ _ _ h => by cases h.1) (Or.inl ⟨by rfl, ?hy⟩) (by assumption) ?_
      case hy => (intro w hSw; (try dsimp only at hSw); go_simp; with_reducible rfl)
      try simp only [Act.put, List.setIfInBounds_toArray, List.set_cons_zero, List.set_cons_succ]
      refine wpAnyH_take (i := 1) (v := ?_) rfl (by kernel_rfl) (by kernel_rfl) (by kernel_rfl) (fun _ _ _ h => by cases h.1) (Or.inl ⟨by rfl, ?hy⟩) (by assumption) ?_
      case hy => (intro w hSw; (try dsimp only at hSw); go_simp; with_reducible rfl)
      try simp only [Act.put, List.setIfInBounds_toArray, List.set_cons_zero, List.set_cons_succ]
      refine wpAnyH_take (i := 2) (v := ?_) rfl (by kernel_rfl) (by kernel_rfl) (by kernel_rfl) (fun _ _ _ h => by cases h.1) (Or.inl ⟨by rfl, ?hy⟩) (by assumption) ?_
      case hy => (intro w hSw; (try dsimp only at hSw); go_simp; with_reducible rfl)
      try simp only [Act.put, List.setIfInBounds_toArray, List.set_cons_zero, List.set_cons_succ]
      refine wpAnyH_take (i := 3) (v := ?_) rfl (by kernel_rfl) (by kernel_rfl) (by kernel_rfl) (fun _ _ _ h => by cases h.1) (Or.inl ⟨by rfl, ?hy⟩) (by assumption) ?_
      case hy => (intro w hSw; (try dsimp only at hSw); go_simp; with_reducible rfl)
      try simp only [Act.put, List.setIfInBounds_toArray, List.set_cons_zero, List.set_cons_succ]
      refine wpAnyH_take (i := 4) (v := ?_) rfl (by kernel_rfl) (by kernel_rfl) (by kernel_rfl) (fun _ _ _ h => by cases h.1) (Or.inl ⟨by rfl, ?hy⟩) (by assumption) ?_
      case hy => (intro w hSw; (try dsimp only at hSw); go_simp; with_reducible rfl)
      try simp only [Act.put, List.setIfInBounds_toArray, List.set_cons_zero, List.set_cons_succ]
      refine wpAnyH_ready (rs := [5, 6]) (by kernel_rfl) (by simp) ?_
      refine AllReadyH.cons rfl (fun K hK => ?_) (AllReadyH.cons rfl (fun K hK => ?_) AllReadyH.nil)
      · go_simp
        refine (HWR.out _ (Ev.drew (Ev.refl X))).mono ?_
        rintro e W2 ⟨rfl, hE2⟩
        have hE3 : Ev X W2 := Ev.trans (Ev.drew (Ev.refl X)) hE2
        refine hK.out _ _ (HSE.out _ hE3) (fun hHeld => ?_)
        clear hK K
        try simp only [Act.put, List.setIfInBounds_toArray, List.set_cons_zero, List.set_cons_succ]
        refine wpAnyH_ready (rs := [6]) (by kernel_rfl) (by simp) ?_
        refine AllReadyH.cons rfl (fun K hK => ?_) AllReadyH.nil
        go_simp
        refine hK.out _ _ (HSE.out _ (Ev.alloc hE3 _)) (fun hHeld => ?_)
        clear hK K
        try simp only [Act.put, List.setIfInBounds_toArray, List.set_cons_zero, List.set_cons_succ]
        refine wpAnyH_ready (rs := [7]) (by kernel_rfl) (by simp) ?_
        refine AllReadyH.cons rfl (fun K hK => ?_) AllReadyH.nil
        go_simp
        refine hK.out _ _ (HSE.out _ (Ev.alloc hE3 _)) (fun hHeld => ?_)
        clear hK K
        try simp only [Act.put, List.setIfInBounds_toArray, List.set_cons_zero, List.set_cons_succ]
        exact wpAnyH_done (by kernel_rfl) ⟨rfl, W2.heap.size, ⟨Ev.alloc hE3 _, hE3.size, (alloc1 W2 _).1⟩, rfl⟩ _
      · go_simp
        refine hK.out _ _ (HSE.out _ (Ev.alloc (Ev.drew (Ev.refl X)) _)) (fun hHeld => ?_)
        clear hK K
        try simp only [Act.put, List.setIfInBounds_toArray, List.set_cons_zero, List.set_cons_succ]
        refine wpAnyH_ready (rs := [5]) (by kernel_rfl) (by simp) ?_
        refine AllReadyH.cons rfl (fun K hK => ?_) AllReadyH.nil
        go_simp
        refine (HWR.out _ (Ev.alloc (Ev.drew (Ev.refl X)) _)).mono ?_
        rintro e W2 ⟨rfl, hE2⟩
        have hE3 : Ev X W2 := Ev.trans (Ev.alloc (Ev.drew (Ev.refl X)) _) hE2
        have hA : W2.heap[X.heap.size]? = some (.cells #[.bool false, .bool false, .bool false, .bool false, .bool false] 105 (0, 0)) := hE2.heap (alloc1 X.drew _).1
        obtain ⟨a0, a1, a2, a3, a4⟩ := cells5 hA
        obtain ⟨g0, g1, g2, g3, g4⟩ := frz5 hA
        have HA := hid hA
        clear hA
        refine hK.out _ _ (HSE.out _ hE3) (fun hHeld => ?_)
        clear hK K
        try simp only [Act.put, List.setIfInBounds_toArray, List.set_cons_zero, List.set_cons_succ]
        refine wpAnyH_ready (rs := [7]) (by kernel_rfl) (by simp) ?_
        refine AllReadyH.cons rfl (fun K hK => ?_) AllReadyH.nil
        go_simp
        have hE5 := Ev.setCell (Ev.setCell (Ev.setCell (Ev.setCell (Ev.setCell hE3 (p := ⟨X.heap.size, 0, none⟩) (Nat.le_refl _) (.bool z0)) (p := ⟨X.heap.size, 1, none⟩) (Nat.le_refl _) (.bool z1)) (p := ⟨X.heap.size, 2, none⟩) (Nat.le_refl _) (.bool z2)) (p := ⟨X.heap.size, 3, none⟩) (Nat.le_refl _) (.bool z3)) (p := ⟨X.heap.size, 4, none⟩) (Nat.le_refl _) (.bool z4)
        refine hK.out _ _ (HSE.out _ hE5) (fun hHeld => ?_)
        clear hK K
        try simp only [Act.put, List.setIfInBounds_toArray, List.set_cons_zero, List.set_cons_succ]
        exact wpAnyH_done (by kernel_rfl) ⟨rfl, X.heap.size, ⟨hE5, Nat.le_refl _, set5 HA.out⟩, rfl⟩ _
    case cont4 =>
      rintro e a' Y ⟨rfl, r, ⟨hE4, hr, hcr⟩, rfl⟩
      obtain ⟨a0, a1, a2, a3, a4⟩ := cells5 hcr
      obtain ⟨i0, hi, hz0, hz1, hz2⟩ := info_parts info101
      have heq := fun W => eq105 (x := M.wrong f x) (y := M.noFault) (M.wrong_len f x) rfl W
      generalize hg : decide (M.wrong f x = M.noFault) = g at heq
      rw [HZE.out] at heq
      simp only [bv, M.noFault, List.map_cons, List.map_nil] at heq
      have HG := hid hg
      have HEQ := hid heq
      clear hg
      have hpbY := hE4.heap hpb
      have hwbY := hE4.heap hwb
      have hr1Y := hr1.ev hE4
      have hr2Y := hr2.ev hE4
      have hrl : ∀ y ∈ M.rights f pre, (scs y).length = 7 := fun y hy => by have := hxr7 y hy; simpa [scs] using this
      have hrl2 : ∀ y ∈ M.rights f pre ++ [[b0, b1, b2, b3, b4, b5, b6]], (scs y).length = 7 := fun y hy => by
        rcases List.mem_append.1 hy with hy | hy
        · exact hrl y hy
        · rw [show y = [b0, b1, b2, b3, b4, b5, b6] by simpa using hy]; rfl
      obtain ⟨V1, cc1, rfl, _⟩ := Sl.of_own (enc := scs) (sz := 7) (by decide) hrl (by omega) hr1Y
      obtain ⟨V2, cc2, rfl, _⟩ := Sl.of_own (enc := fcs) (sz := 5) (by decide) (fun y hy => by have := hx5 y hy; simpa [fcs] using this) (by omega) hr2Y
      have hYs := hE4.size
      obtain ⟨k0, k1, k2, k3, k4, k5, k6⟩ := cells7 hwbY
      have p1 := cell_in hpbY 0
      simp only [List.getElem?_toArray, List.getElem?_cons_zero] at p1
      obtain ⟨y0, y1, y2, y3, y4, y5, y6⟩ := cells7 (hE4.heap hc)
      have hqY : q < Y.heap.size := by omega
      have hwY : w.heap.size + 1 < Y.heap.size := by omega
      have hpY : w.heap.size + 1 + 1 < Y.heap.size := by omega
      cases g with
      | true =>
        gi_wp2
        refine Code.wpIn_mono (Q := fun e a' W' => e = .normal ∧ ∃ V' cc' W3, ((Y.drew.alloc (.cells #[.int .i64 b0, .int .i64 b1, .int .i64 b2, .int .i64 b3, .int .i64 b4, .int .i64 b5, .int .i64 b6] 101)).grownBy W3 (Value.slice V1 (M.rights f pre).length cc1).ownBlock ∧ W3.ownsRow B 101 7 (.slice V' ((M.rights f pre).length + 1) cc') ((M.rights f pre).length + 1) ((M.rights f pre).flatMap scs ++ [.int .i64 b0, .int .i64 b1, .int .i64 b2, .int .i64 b3, .int .i64 b4, .int .i64 b5, .int .i64 b6]) ∧ W' = W3.setCell ⟨w.heap.size + 1, 5, none⟩ (.slice V' ((M.rights f pre).length + 1) cc')) ∧ a' = { tmps := #[.agg #[.int .i64 rs, .int .i64 D, .int .i64 f.lf.lo, .int .i64 f.lf.hi, .slice A n c], .pointer (some ⟨w.heap.size, 0, none⟩), .pointer none, .pointer (some ⟨w.heap.size + 1 + 1, 0, none⟩), .pointer (some ⟨q, 0, none⟩), .pointer (some ⟨r, 0, none⟩), .agg #[.int .i64 rs, .int .i64 D, .int .i64 f.lf.lo, .int .i64 f.lf.hi, .slice A n c], .agg #[.int .i64 rs, .int .i64 D, .int .i64 f.lf.lo, .int .i64 f.lf.hi, .slice A n c, .slice none 0 0, .slice none 0 0], .pointer (some ⟨w.heap.size + 1, 0, none⟩), .pointer (some ⟨w.heap.size + 1, 0, none⟩), .pointer (some ⟨w.heap.size + 1, 0, none⟩), .pointer (some ⟨w.heap.size + 1, 0, none⟩), .agg #[.int .i64 rs, .int .i64 D, .int .i64 f.lf.lo, .int .i64 f.lf.hi, .slice A n c], .func (.func 128) #[] #[.pointer (some ⟨w.heap.size + 1 + 1 + 1, 0, none⟩)], .agg #[.int .i64 b0, .int .i64 b1, .int .i64 b2, .int .i64 b3, .int .i64 b4, .int .i64 b5, .int .i64 b6], .pointer (some ⟨w.heap.size + 1, 0, none⟩), .pointer (some ⟨w.heap.size + 1, 0, none⟩), .pointer (some ⟨w.heap.size + 1, 0, none⟩), .agg #[.int .i64 rs, .int .i64 D, .int .i64 f.lf.lo, .int .i64 f.lf.hi, .slice A n c], .agg #[.int .i64 b0, .int .i64 b1, .int .i64 b2, .int .i64 b3, .int .i64 b4, .int .i64 b5, .int .i64 b6], .agg #[.bool z0, .bool z1, .bool z2, .bool z3, .bool z4], .agg #[.bool z0, .bool z1, .bool z2, .bool z3, .bool z4], .agg #[.bool false, .bool false, .bool false, .bool false, .bool false], .bool true, .pointer (some ⟨w.heap.size + 1, 0, none⟩), .pointer (some ⟨w.heap.size + 1, 0, none⟩), .pointer (some ⟨w.heap.size + 1, 0, none⟩), .pointer (some ⟨w.heap.size + 1, 5, none⟩), .slice V1 (M.rights f pre).length cc1, .agg #[.int .i64 b0, .int .i64 b1, .int .i64 b2, .int .i64 b3, .int .i64 b4, .int .i64 b5, .int .i64 b6], .slice (some ⟨Y.heap.size, 0, none⟩) 1 1, .slice V' ((M.rights f pre).length + 1) cc', .pointer (some ⟨w.heap.size + 1, 0, none⟩), .pointer (some ⟨w.heap.size + 1, 5, none⟩), undef, undef, undef, undef, undef, undef, undef, undef, undef, undef, undef, undef, undef, undef, undef, undef, undef, undef], defers := [] }) ?cont6 ?reg6
        case reg6 =>
          have HSE : Hid (∀ w', Ev Y w' → ∀ o, w'.cell? ⟨w.heap.size + 1 + 1, o, none⟩ = Y.cell? ⟨w.heap.size + 1 + 1, o, none⟩) := hid (fun w' h o => h.cells.1 _ o hpY)
          have hEA : Ev Y (Y.drew.alloc (.cells #[.int .i64 b0, .int .i64 b1, .int .i64 b2, .int .i64 b3, .int .i64 b4, .int .i64 b5, .int .i64 b6] 101)) := Ev.alloc (Ev.drew (Ev.refl Y)) _
          have hnb : (Y.drew.alloc (.cells #[.int .i64 b0, .int .i64 b1, .int .i64 b2, .int .i64 b3, .int .i64 b4, .int .i64 b5, .int .i64 b6] 101)).heap[Y.heap.size]? = some (.cells #[.int .i64 b0, .int .i64 b1, .int .i64 b2, .int .i64 b3, .int .i64 b4, .int .i64 b5, .int .i64 b6] 101 (0, 0)) := (alloc1 Y.drew _).1
          refine held_in (S := fun w' => ∀ o, w'.cell? ⟨w.heap.size + 1 + 1, o, none⟩ = Y.cell? ⟨w.heap.size + 1 + 1, o, none⟩) (by kernel_rfl) rfl (fun _ _ h => by cases h.1) (fun o => rfl) (fun hHeld => ?_)
          refine wpAnyH_take (i := 0) (v := ?_) rfl (by kernel_rfl) (by kernel_rfl) (by kernel_rfl) (fun _ _ _ h => by cases h.1) (Or.inl ⟨by rfl, ?hy⟩) (by assumption) ?_
          case hy => (intro w hSw; (try dsimp only at hSw); go_simp; with_reducible rfl)
          try simp only [Act.put, List.setIfInBounds_toArray, List.set_cons_zero, List.set_cons_succ]
          refine wpAnyH_take (i := 1) (v := ?_) rfl (by kernel_rfl) (by kernel_rfl) (by kernel_rfl) (fun _ _ _ h => by cases h.1) (Or.inl ⟨by rfl, ?hy⟩) (by assumption) ?_
          case hy => (intro w hSw; (try dsimp only at hSw); go_simp; with_reducible rfl)
          try simp only [Act.put, List.setIfInBounds_toArray, List.set_cons_zero, List.set_cons_succ]
          refine wpAnyH_take (i := 2) (v := ?_) rfl (by kernel_rfl) (by kernel_rfl) (by kernel_rfl) (fun _ _ _ h => by cases h.1) (Or.inl ⟨by rfl, ?hy⟩) (by assumption) ?_
          case hy => (intro w hSw; (try dsimp only at hSw); go_simp; with_reducible rfl)
          try simp only [Act.put, List.setIfInBounds_toArray, List.set_cons_zero, List.set_cons_succ]
          refine wpAnyH_take (i := 3) (v := ?_) rfl (by kernel_rfl) (by kernel_rfl) (by kernel_rfl) (fun _ _ _ h => by cases h.1) (Or.inl ⟨by rfl, ?hy⟩) (by assumption) ?_
          case hy => (intro w hSw; (try dsimp only at hSw); go_simp; with_reducible rfl)
          try simp only [Act.put, List.setIfInBounds_toArray, List.set_cons_zero, List.set_cons_succ]
          refine wpAnyH_ready (rs := [4, 5]) (by kernel_rfl) (by simp) ?_
          refine AllReadyH.cons rfl (fun K hK => ?_) (AllReadyH.cons rfl (fun K hK => ?_) AllReadyH.nil)
          · go_simp
            refine hK.out _ _ (HSE.out _ (Ev.drew (Ev.refl Y))) (fun hHeld => ?_)
            clear hK K
            try simp only [Act.put, List.setIfInBounds_toArray, List.set_cons_zero, List.set_cons_succ]
            refine wpAnyH_ready (rs := [5]) (by kernel_rfl) (by simp) ?_
            refine AllReadyH.cons rfl (fun K hK => ?_) AllReadyH.nil
            go_simp
            refine hK.out _ _ (HSE.out _ (Ev.drew (Ev.refl Y))) (fun hHeld => ?_)
            clear hK K
            try simp only [Act.put, List.setIfInBounds_toArray, List.set_cons_zero, List.set_cons_succ]
            refine wpAnyH_ready (rs := [6]) (by kernel_rfl) (by simp) ?_
            refine AllReadyH.cons rfl (fun K hK => ?_) AllReadyH.nil
            go_simp
            refine hK.out _ _ (HSE.out _ (Ev.alloc (Ev.drew (Ev.refl Y)) _)) (fun hHeld => ?_)
            clear hK K
            try simp only [Act.put, List.setIfInBounds_toArray, List.set_cons_zero, List.set_cons_succ]
            refine wpAnyH_ready (rs := [7]) (by kernel_rfl) (by simp) ?_
            refine AllReadyH.cons rfl (fun K hK => ?_) AllReadyH.nil
            refine step_append_own rfl (.tmp 28) (.tmp 30) 124 rfl B 101 i0 _ 7 56 Try.underlying124 hi hz0 hz1 hz2 rfl (by decide) (.slice V1 (M.rights f pre).length cc1) (M.rights f pre).length ((M.rights f pre).flatMap scs) rfl (hr1Y.ev hEA) ⟨Y.heap.size, 0, none⟩ 1 1 [.int .i64 b0, .int .i64 b1, .int .i64 b2, .int .i64 b3, .int .i64 b4, .int .i64 b5, .int .i64 b6] rfl rfl (news_in hnb) (by simp [Value.oneCell']) (by unfold maxLen; omega) (by omega) (by simp; omega) ?_
            intro v' W3 hown' hgrow _
            obtain ⟨V', cc', rfl, _⟩ := Sl.of_own (enc := scs) (sz := 7) (n := (M.rights f pre).length + 1) (xs := M.rights f pre ++ [[b0, b1, b2, b3, b4, b5, b6]]) (by decide) hrl2 (by omega) (by rw [List.flatMap_append]; exact hown')
            have hk3 : ∀ k, k < B → k < Y.heap.size → W3.heap[k]? = Y.heap[k]? := fun k hk hk2 => (hgrow.block k (Nat.lt_of_lt_of_le hk2 hEA.size) (fun e => by have := (hr1Y.lt k e.symm).1; omega)).trans (hEA.block k hk2)
            have hwb3 : W3.heap[w.heap.size + 1]? = some (.cells #[.int .i64 rs, .int .i64 D, .int .i64 f.lf.lo, .int .i64 f.lf.hi, .slice A n c, .slice V1 (M.rights f pre).length cc1, .slice V2 (M.sees f [] pre).length cc2] 127 (0, 0)) := (hk3 (w.heap.size + 1) (by omega) (heap_lt hwbY)).trans hwbY
            have c35 := cell_in hwb3 5
            have f35 := frozen_in hwb3 5
            simp only [List.getElem?_toArray, List.getElem?_cons_succ, List.getElem?_cons_zero] at c35
            refine hK.out _ _ (fun o => World.cell?_of_block (w := Y) (hk3 (w.heap.size + 1 + 1) (by omega) (heap_lt hpbY))) (fun hHeld => ?_)
            clear hK K
            try simp only [Act.put, List.setIfInBounds_toArray, List.set_cons_zero, List.set_cons_succ]
            refine wpAnyH_take (i := 8) (v := ?_) rfl (by kernel_rfl) (by kernel_rfl) (by kernel_rfl) (fun _ _ _ h => by cases h.1) (Or.inl ⟨by rfl, ?hy⟩) (by assumption) ?_
            case hy => (intro w hSw; (try dsimp only at hSw); go_simp; with_reducible rfl)
            try simp only [Act.put, List.setIfInBounds_toArray, List.set_cons_zero, List.set_cons_succ]
            refine wpAnyH_take (i := 9) (v := ?_) rfl (by kernel_rfl) (by kernel_rfl) (by kernel_rfl) (fun _ _ _ h => by cases h.1) (Or.inl ⟨by rfl, ?hy⟩) (by assumption) ?_
            case hy => (intro w hSw; (try dsimp only at hSw); go_simp; with_reducible rfl)
            try simp only [Act.put, List.setIfInBounds_toArray, List.set_cons_zero, List.set_cons_succ]
            refine wpAnyH_ready (rs := [10]) (by kernel_rfl) (by simp) ?_
            refine AllReadyH.cons rfl (fun K hK => ?_) AllReadyH.nil
            go_simp
            refine hK.out _ _ (fun o => (World.cell?_of_block (w := W3) (Below.heap_setCell _ _ _ _ (by simp))).trans (World.cell?_of_block (w := Y) (hk3 (w.heap.size + 1 + 1) (by omega) (heap_lt hpbY)))) (fun hHeld => ?_)
            clear hK K
            try simp only [Act.put, List.setIfInBounds_toArray, List.set_cons_zero, List.set_cons_succ]
            exact wpAnyH_done (by kernel_rfl) ⟨rfl, V', cc', W3, ⟨hgrow, hown', rfl⟩, rfl⟩ _
          · go_simp
            refine hK.out _ _ (HSE.out _ (Ev.drew (Ev.refl Y))) (fun hHeld => ?_)
            clear hK K
            try simp only [Act.put, List.setIfInBounds_toArray, List.set_cons_zero, List.set_cons_succ]
            refine wpAnyH_ready (rs := [4, 6]) (by kernel_rfl) (by simp) ?_
            refine AllReadyH.cons rfl (fun K hK => ?_) (AllReadyH.cons rfl (fun K hK => ?_) AllReadyH.nil)
            · go_simp
              refine hK.out _ _ (HSE.out _ (Ev.drew (Ev.refl Y))) (fun hHeld => ?_)
              clear hK K
              try simp only [Act.put, List.setIfInBounds_toArray, List.set_cons_zero, List.set_cons_succ]
              refine wpAnyH_ready (rs := [6]) (by kernel_rfl) (by simp) ?_
              refine AllReadyH.cons rfl (fun K hK => ?_) AllReadyH.nil
              go_simp
              refine hK.out _ _ (HSE.out _ (Ev.alloc (Ev.drew (Ev.refl Y)) _)) (fun hHeld => ?_)
              clear hK K
              try simp only [Act.put, List.setIfInBounds_toArray, List.set_cons_zero, List.set_cons_succ]
              refine wpAnyH_ready (rs := [7]) (by kernel_rfl) (by simp) ?_
              refine AllReadyH.cons rfl (fun K hK => ?_) AllReadyH.nil
              refine step_append_own rfl (.tmp 28) (.tmp 30) 124 rfl B 101 i0 _ 7 56 Try.underlying124 hi hz0 hz1 hz2 rfl (by decide) (.slice V1 (M.rights f pre).length cc1) (M.rights f pre).length ((M.rights f pre).flatMap scs) rfl (hr1Y.ev hEA) ⟨Y.heap.size, 0, none⟩ 1 1 [.int .i64 b0, .int .i64 b1, .int .i64 b2, .int .i64 b3, .int .i64 b4, .int .i64 b5, .int .i64 b6] rfl rfl (news_in hnb) (by simp [Value.oneCell']) (by unfold maxLen; omega) (by omega) (by simp; omega) ?_
              intro v' W3 hown' hgrow _
              obtain ⟨V', cc', rfl, _⟩ := Sl.of_own (enc := scs) (sz := 7) (n := (M.rights f pre).length + 1) (xs := M.rights f pre ++ [[b0, b1, b2, b3, b4, b5, b6]]) (by decide) hrl2 (by omega) (by rw [List.flatMap_append]; exact hown')
              have hk3 : ∀ k, k < B → k < Y.heap.size → W3.heap[k]? = Y.heap[k]? := fun k hk hk2 => (hgrow.block k (Nat.lt_of_lt_of_le hk2 hEA.size) (fun e => by have := (hr1Y.lt k e.symm).1; omega)).trans (hEA.block k hk2)
              have hwb3 : W3.heap[w.heap.size + 1]? = some (.cells #[.int .i64 rs, .int .i64 D, .int .i64 f.lf.lo, .int .i64 f.lf.hi, .slice A n c, .slice V1 (M.rights f pre).length cc1, .slice V2 (M.sees f [] pre).length cc2] 127 (0, 0)) := (hk3 (w.heap.size + 1) (by omega) (heap_lt hwbY)).trans hwbY
              have c35 := cell_in hwb3 5
              have f35 := frozen_in hwb3 5
              simp only [List.getElem?_toArray, List.getElem?_cons_succ, List.getElem?_cons_zero] at c35
              refine hK.out _ _ (fun o => World.cell?_of_block (w := Y) (hk3 (w.heap.size + 1 + 1) (by omega) (heap_lt hpbY))) (fun hHeld => ?_)
              clear hK K
              try simp only [Act.put, List.setIfInBounds_toArray, List.set_cons_zero, List.set_cons_succ]
              refine wpAnyH_take (i := 8) (v := ?_) rfl (by kernel_rfl) (by kernel_rfl) (by kernel_rfl) (fun _ _ _ h => by cases h.1) (Or.inl ⟨by rfl, ?hy⟩) (by assumption) ?_
              case hy => (intro w hSw; (try dsimp only at hSw); go_simp; with_reducible rfl)
              try simp only [Act.put, List.setIfInBounds_toArray, List.set_cons_zero, List.set_cons_succ]
              refine wpAnyH_take (i := 9) (v := ?_) rfl (by kernel_rfl) (by kernel_rfl) (by kernel_rfl) (fun _ _ _ h => by cases h.1) (Or.inl ⟨by rfl, ?hy⟩) (by assumption) ?_
              case hy => (intro w hSw; (try dsimp only at hSw); go_simp; with_reducible rfl)
              try simp only [Act.put, List.setIfInBounds_toArray, List.set_cons_zero, List.set_cons_succ]
              refine wpAnyH_ready (rs := [10]) (by kernel_rfl) (by simp) ?_
              refine AllReadyH.cons rfl (fun K hK => ?_) AllReadyH.nil
              go_simp
              refine hK.out _ _ (fun o => (World.cell?_of_block (w := W3) (Below.heap_setCell _ _ _ _ (by simp))).trans (World.cell?_of_block (w := Y) (hk3 (w.heap.size + 1 + 1) (by omega) (heap_lt hpbY)))) (fun hHeld => ?_)
              clear hK K
              try simp only [Act.put, List.setIfInBounds_toArray, List.set_cons_zero, List.set_cons_succ]
              exact wpAnyH_done (by kernel_rfl) ⟨rfl, V', cc', W3, ⟨hgrow, hown', rfl⟩, rfl⟩ _
            · go_simp
              refine hK.out _ _ (HSE.out _ (Ev.alloc (Ev.drew (Ev.refl Y)) _)) (fun hHeld => ?_)
              clear hK K
              try simp only [Act.put, List.setIfInBounds_toArray, List.set_cons_zero, List.set_cons_succ]
              refine wpAnyH_ready (rs := [4]) (by kernel_rfl) (by simp) ?_
              refine AllReadyH.cons rfl (fun K hK => ?_) AllReadyH.nil
              go_simp
              refine hK.out _ _ (HSE.out _ (Ev.alloc (Ev.drew (Ev.refl Y)) _)) (fun hHeld => ?_)
              clear hK K
              try simp only [Act.put, List.setIfInBounds_toArray, List.set_cons_zero, List.set_cons_succ]
              refine wpAnyH_ready (rs := [7]) (by kernel_rfl) (by simp) ?_
              refine AllReadyH.cons rfl (fun K hK => ?_) AllReadyH.nil
              refine step_append_own rfl (.tmp 28) (.tmp 30) 124 rfl B 101 i0 _ 7 56 Try.underlying124 hi hz0 hz1 hz2 rfl (by decide) (.slice V1 (M.rights f pre).length cc1) (M.rights f pre).length ((M.rights f pre).flatMap scs) rfl (hr1Y.ev hEA) ⟨Y.heap.size, 0, none⟩ 1 1 [.int .i64 b0, .int .i64 b1, .int .i64 b2, .int .i64 b3, .int .i64 b4, .int .i64 b5, .int .i64 b6] rfl rfl (news_in hnb) (by simp [Value.oneCell']) (by unfold maxLen; omega) (by omega) (by simp; omega) ?_
              intro v' W3 hown' hgrow _
              obtain ⟨V', cc', rfl, _⟩ := Sl.of_own (enc := scs) (sz := 7) (n := (M.rights f pre).length + 1) (xs := M.rights f pre ++ [[b0, b1, b2, b3, b4, b5, b6]]) (by decide) hrl2 (by omega) (by rw [List.flatMap_append]; exact hown')
              have hk3 : ∀ k, k < B → k < Y.heap.size → W3.heap[k]? = Y.heap[k]? := fun k hk hk2 => (hgrow.block k (Nat.lt_of_lt_of_le hk2 hEA.size) (fun e => by have := (hr1Y.lt k e.symm).1; omega)).trans (hEA.block k hk2)
              have hwb3 : W3.heap[w.heap.size + 1]? = some (.cells #[.int .i64 rs, .int .i64 D, .int .i64 f.lf.lo, .int .i64 f.lf.hi, .slice A n c, .slice V1 (M.rights f pre).length cc1, .slice V2 (M.sees f [] pre).length cc2] 127 (0, 0)) := (hk3 (w.heap.size + 1) (by omega) (heap_lt hwbY)).trans hwbY
              have c35 := cell_in hwb3 5
              have f35 := frozen_in hwb3 5
              simp only [List.getElem?_toArray, List.getElem?_cons_succ, List.getElem?_cons_zero] at c35
              refine hK.out _ _ (fun o => World.cell?_of_block (w := Y) (hk3 (w.heap.size + 1 + 1) (by omega) (heap_lt hpbY))) (fun hHeld => ?_)
              clear hK K
              try simp only [Act.put, List.setIfInBounds_toArray, List.set_cons_zero, List.set_cons_succ]
              refine wpAnyH_take (i := 8) (v := ?_) rfl (by kernel_rfl) (by kernel_rfl) (by kernel_rfl) (fun _ _ _ h => by cases h.1) (Or.inl ⟨by rfl, ?hy⟩) (by assumption) ?_
              case hy => (intro w hSw; (try dsimp only at hSw); go_simp; with_reducible rfl)
              try simp only [Act.put, List.setIfInBounds_toArray, List.set_cons_zero, List.set_cons_succ]
              refine wpAnyH_take (i := 9) (v := ?_) rfl (by kernel_rfl) (by kernel_rfl) (by kernel_rfl) (fun _ _ _ h => by cases h.1) (Or.inl ⟨by rfl, ?hy⟩) (by assumption) ?_
              case hy => (intro w hSw; (try dsimp only at hSw); go_simp; with_reducible rfl)
              try simp only [Act.put, List.setIfInBounds_toArray, List.set_cons_zero, List.set_cons_succ]
              refine wpAnyH_ready (rs := [10]) (by kernel_rfl) (by simp) ?_
              refine AllReadyH.cons rfl (fun K hK => ?_) AllReadyH.nil
              go_simp
              refine hK.out _ _ (fun o => (World.cell?_of_block (w := W3) (Below.heap_setCell _ _ _ _ (by simp))).trans (World.cell?_of_block (w := Y) (hk3 (w.heap.size + 1 + 1) (by omega) (heap_lt hpbY)))) (fun hHeld => ?_)
              clear hK K
              try simp only [Act.put, List.setIfInBounds_toArray, List.set_cons_zero, List.set_cons_succ]
              exact wpAnyH_done (by kernel_rfl) ⟨rfl, V', cc', W3, ⟨hgrow, hown', rfl⟩, rfl⟩ _
        case cont6 =>
          rintro e a' W' ⟨rfl, V', cc', W3, ⟨hgrow, hown', rfl⟩, rfl⟩
          have hEA : Ev Y (Y.drew.alloc (.cells #[.int .i64 b0, .int .i64 b1, .int .i64 b2, .int .i64 b3, .int .i64 b4, .int .i64 b5, .int .i64 b6] 101)) := Ev.alloc (Ev.drew (Ev.refl Y)) _
          have hk3 : ∀ k, k < Y.heap.size → (Value.slice V1 (M.rights f pre).length cc1).ownBlock ≠ some k → W3.heap[k]? = Y.heap[k]? := fun k hk2 hne => (hgrow.block k (Nat.lt_of_lt_of_le hk2 hEA.size) (fun e => hne e.symm)).trans (hEA.block k hk2)
          have hlow : ∀ k, k < B → (Value.slice V1 (M.rights f pre).length cc1).ownBlock ≠ some k := fun k hk e => by have := (hr1.lt k e).1; omega
          have hwb3 := (hk3 (w.heap.size + 1) (heap_lt hwbY) (hlow _ (by omega))).trans hwbY
          have hsz3 : (W3.setCell ⟨w.heap.size + 1, 5, none⟩ (.slice V' ((M.rights f pre).length + 1) cc')).heap.size = W3.heap.size := by simp [World.setCell]
          have hpbZ := set_heap (v := .slice V' ((M.rights f pre).length + 1) cc') (b := w.heap.size + 1) (j := 5) ((hk3 (w.heap.size + 1 + 1) (heap_lt hpbY) (hlow _ (by omega))).trans hpbY) (by simp)
          have hwbZ : (W3.setCell ⟨w.heap.size + 1, 5, none⟩ (.slice V' ((M.rights f pre).length + 1) cc')).heap[w.heap.size + 1]? = some (.cells #[.int .i64 rs, .int .i64 D, .int .i64 f.lf.lo, .int .i64 f.lf.hi, .slice A n c, .slice V' ((M.rights f pre).length + 1) cc', .slice V2 (M.sees f [] pre).length cc2] 127 (0, 0)) := by rw [set_heap_same hwb3]; rfl
          have hrZ := set_heap (v := .slice V' ((M.rights f pre).length + 1) cc') (b := w.heap.size + 1) (j := 5) ((hk3 r (heap_lt hcr) (fun e => by have := (hr1.lt r e).2; omega)).trans hcr) (by simp; omega)
          have hrt : M.rights f (pre ++ [x]) = M.rights f pre ++ [x] := by unfold M.rights; rw [List.filter_append]; simp [HG.out]
          have hr1Z : (W3.setCell ⟨w.heap.size + 1, 5, none⟩ (.slice V' ((M.rights f pre).length + 1) cc')).ownsRow B 101 7 (.slice V' ((M.rights f pre).length + 1) cc') (M.rights f (pre ++ [x])).length ((M.rights f (pre ++ [x])).flatMap scs) := by
            rw [hrt, List.flatMap_append, List.length_append, HXE.out]
            exact ownsRow_setCell_below (a := ⟨w.heap.size + 1, 5, none⟩) hown' (show w.heap.size + 1 < B by omega) _
          have hr2Z := ownsRow_setCell_below (a := ⟨w.heap.size + 1, 5, none⟩) ((hr2Y.ev hEA).kept hgrow (own_ne (hr1Y.ev hEA) (hr2Y.ev hEA) (by decide))) (show w.heap.size + 1 < B by omega) (.slice V' ((M.rights f pre).length + 1) cc')
          have hY3 : Y.heap.size ≤ W3.heap.size := Nat.le_trans hEA.size hgrow.size
          have hkeepZ : Kept (fun k => k = w.heap.size + 3) W1.heap.size B X (W3.setCell ⟨w.heap.size + 1, 5, none⟩ (.slice V' ((M.rights f pre).length + 1) cc')) := ⟨by rw [hsz3]; omega, fun j hj hor => (Below.heap_setCell _ _ _ j (by simp; omega)).trans ((hk3 j (by omega) (hlow j (by omega))).trans (hE4.block j hj))⟩
          have hbarZ : Bar (w.heap.size + 1) (w.heap.size + 2) W1 (W3.setCell ⟨w.heap.size + 1, 5, none⟩ (.slice V' ((M.rights f pre).length + 1) cc')) := ⟨hgrow.os.trans (hE4.os.trans hbar.os), hgrow.tape.trans (hE4.tape.trans hbar.tape), hgrow.output.trans (hE4.output.trans hbar.output), by rw [hsz3]; omega, fun j hj hn => (Below.heap_setCell _ _ _ j (by simp; omega)).trans ((hk3 j (by omega) (hlow j (by omega))).trans ((hE4.block j (by omega)).trans (hbar.block j hj hn)))⟩
          generalize (W3.setCell ⟨w.heap.size + 1, 5, none⟩ (.slice V' ((M.rights f pre).length + 1) cc')) = Z at hpbZ hwbZ hrZ hr1Z hr2Z hkeepZ hbarZ ⊢
          have hs2Z := sl_own (enc := fcs) (sz := 5) (by decide) (fun y hy => by have := hx5 y hy; simpa [fcs] using this) (by omega) hr2Z
          clear hsz3 hk3 hlow hwb3 hgrow hown' hEA hY3
          obtain ⟨k0, k1, k2, k3, k4, k5, k6⟩ := cells7 hwbZ
          have p2 := cell_in hpbZ 0
          simp only [List.getElem?_toArray, List.getElem?_cons_zero] at p2
          obtain ⟨m0, m1, m2, m3, m4⟩ := cells5 hrZ
          have hrl3 := heap_lt hrZ
          have hwZ := heap_lt hwbZ
          have hpZ := heap_lt hpbZ
          have hcn := fun W (hE : Ev Z W) => conF_c V2 (M.sees f [] pre).length cc2 (M.sees f [] pre) (M.wrong f x) (M.wrong_len f x) hx5 W (hs2Z.ev hE)
          generalize hsn : ((M.sees f [] pre).any (fun x_1 => decide (M.wrong f x = x_1))) = sn at hcn
          rw [HZE.out] at hcn
          simp only [bv, List.map_cons, List.map_nil] at hcn
          have HCN := hid hcn
          have HSN := hid hsn
          clear hcn hsn
          gi_wp2
          refine Code.wpIn_mono (Q := fun e a' W' => e = .normal ∧ (Ev Z W') ∧ a' = { tmps := #[.agg #[.int .i64 rs, .int .i64 D, .int .i64 f.lf.lo, .int .i64 f.lf.hi, .slice A n c], .pointer (some ⟨w.heap.size, 0, none⟩), .pointer none, .pointer (some ⟨w.heap.size + 1 + 1, 0, none⟩), .pointer (some ⟨q, 0, none⟩), .pointer (some ⟨r, 0, none⟩), .agg #[.int .i64 rs, .int .i64 D, .int .i64 f.lf.lo, .int .i64 f.lf.hi, .slice A n c], .agg #[.int .i64 rs, .int .i64 D, .int .i64 f.lf.lo, .int .i64 f.lf.hi, .slice A n c, .slice none 0 0, .slice none 0 0], .pointer (some ⟨w.heap.size + 1, 0, none⟩), .pointer (some ⟨w.heap.size + 1, 0, none⟩), .pointer (some ⟨w.heap.size + 1, 0, none⟩), .pointer (some ⟨w.heap.size + 1, 0, none⟩), .agg #[.int .i64 rs, .int .i64 D, .int .i64 f.lf.lo, .int .i64 f.lf.hi, .slice A n c], .func (.func 128) #[] #[.pointer (some ⟨w.heap.size + 1 + 1 + 1, 0, none⟩)], .agg #[.int .i64 b0, .int .i64 b1, .int .i64 b2, .int .i64 b3, .int .i64 b4, .int .i64 b5, .int .i64 b6], .pointer (some ⟨w.heap.size + 1, 0, none⟩), .pointer (some ⟨w.heap.size + 1, 0, none⟩), .pointer (some ⟨w.heap.size + 1, 0, none⟩), .agg #[.int .i64 rs, .int .i64 D, .int .i64 f.lf.lo, .int .i64 f.lf.hi, .slice A n c], .agg #[.int .i64 b0, .int .i64 b1, .int .i64 b2, .int .i64 b3, .int .i64 b4, .int .i64 b5, .int .i64 b6], .agg #[.bool z0, .bool z1, .bool z2, .bool z3, .bool z4], .agg #[.bool z0, .bool z1, .bool z2, .bool z3, .bool z4], .agg #[.bool false, .bool false, .bool false, .bool false, .bool false], .bool true, .pointer (some ⟨w.heap.size + 1, 0, none⟩), .pointer (some ⟨w.heap.size + 1, 0, none⟩), .pointer (some ⟨w.heap.size + 1, 0, none⟩), .pointer (some ⟨w.heap.size + 1, 5, none⟩), .slice V1 (M.rights f pre).length cc1, .agg #[.int .i64 b0, .int .i64 b1, .int .i64 b2, .int .i64 b3, .int .i64 b4, .int .i64 b5, .int .i64 b6], .slice (some ⟨Y.heap.size, 0, none⟩) 1 1, .slice V' ((M.rights f pre).length + 1) cc', .pointer (some ⟨w.heap.size + 1, 0, none⟩), .pointer (some ⟨w.heap.size + 1, 5, none⟩), .pointer (some ⟨w.heap.size + 1, 0, none⟩), .pointer (some ⟨w.heap.size + 1, 0, none⟩), .pointer (some ⟨w.heap.size + 1, 6, none⟩), .slice V2 (M.sees f [] pre).length cc2, .agg #[.bool z0, .bool z1, .bool z2, .bool z3, .bool z4], .bool sn, .bool (!sn), undef, undef, undef, undef, undef, undef, undef, undef, undef, undef, undef], defers := [] }) ?cont7 ?reg7
          case reg7 =>
            have HSE : Hid (∀ w', Ev Z w' → Ev Z w' ∧ (∀ b o, b < Z.heap.size → w'.cell? ⟨b, o, none⟩ = Z.cell? ⟨b, o, none⟩)) := hid (fun w' h => ⟨h, fun b o hb => h.cells.1 b o hb⟩)
            refine held_in (S := fun w' => Ev Z w' ∧ (∀ b o, b < Z.heap.size → w'.cell? ⟨b, o, none⟩ = Z.cell? ⟨b, o, none⟩)) (by kernel_rfl) rfl (fun _ _ h => by cases h.1) ⟨Ev.drew (Ev.refl Z), fun b o hb => rfl⟩ (fun hHeld => ?_)
            refine wpAnyH_take (i := 0) (v := ?_) rfl (by kernel_rfl) (by kernel_rfl) (by kernel_rfl) (fun _ _ _ h => by cases h.1) (Or.inl ⟨by rfl, ?hy⟩) (by assumption) ?_
            case hy => (intro w hSw; (try dsimp only at hSw); go_simp; with_reducible rfl)
            try simp only [Act.put, List.setIfInBounds_toArray, List.set_cons_zero, List.set_cons_succ]
            refine wpAnyH_take (i := 1) (v := ?_) rfl (by kernel_rfl) (by kernel_rfl) (by kernel_rfl) (fun _ _ _ h => by cases h.1) (Or.inl ⟨by rfl, ?hy⟩) (by assumption) ?_
            case hy => (intro w hSw; (try dsimp only at hSw); go_simp; with_reducible rfl)
            try simp only [Act.put, List.setIfInBounds_toArray, List.set_cons_zero, List.set_cons_succ]
            refine wpAnyH_take (i := 2) (v := ?_) rfl (by kernel_rfl) (by kernel_rfl) (by kernel_rfl) (fun _ _ _ h => by cases h.1) (Or.inl ⟨by rfl, ?hy⟩) (by assumption) ?_
            case hy => (intro w hSw; (try dsimp only at hSw); go_simp; with_reducible rfl)
            try simp only [Act.put, List.setIfInBounds_toArray, List.set_cons_zero, List.set_cons_succ]
            refine wpAnyH_take (i := 3) (v := ?_) rfl (by kernel_rfl) (by kernel_rfl) (by kernel_rfl) (fun _ _ _ h => by cases h.1) (Or.inl ⟨by rfl, ?hy⟩) (by assumption) ?_
            case hy => (intro w hSw; (try dsimp only at hSw); go_simp; with_reducible rfl)
            try simp only [Act.put, List.setIfInBounds_toArray, List.set_cons_zero, List.set_cons_succ]
            refine wpAnyH_take (i := 4) (v := ?_) rfl (by kernel_rfl) (by kernel_rfl) (by kernel_rfl) (fun _ _ _ h => by cases h.1) (Or.inl ⟨by rfl, ?hy⟩) (by assumption) ?_
            case hy => (intro w hSw; (try dsimp only at hSw); go_simp; with_reducible rfl)
            try simp only [Act.put, List.setIfInBounds_toArray, List.set_cons_zero, List.set_cons_succ]
            refine wpAnyH_ready (rs := [5]) (by kernel_rfl) (by simp) ?_
            refine AllReadyH.cons rfl (fun K hK => ?_) AllReadyH.nil
            go_simp
            refine (HCN.out _ (Ev.drew (Ev.refl Z))).mono ?_
            rintro e W5 ⟨rfl, hE5⟩
            have hE6 : Ev Z W5 := Ev.trans (Ev.drew (Ev.refl Z)) hE5
            refine hK.out _ _ (HSE.out _ hE6) (fun hHeld => ?_)
            clear hK K
            try simp only [Act.put, List.setIfInBounds_toArray, List.set_cons_zero, List.set_cons_succ]
            refine wpAnyH_ready (rs := [6]) (by kernel_rfl) (by simp) ?_
            refine AllReadyH.cons rfl (fun K hK => ?_) AllReadyH.nil
            go_simp
            refine hK.out _ _ (HSE.out _ hE6) (fun hHeld => ?_)
            clear hK K
            try simp only [Act.put, List.setIfInBounds_toArray, List.set_cons_zero, List.set_cons_succ]
            exact wpAnyH_done (by kernel_rfl) ⟨rfl, hE6, rfl⟩ _
          case cont7 =>
            rintro e a' U ⟨rfl, hEU, rfl⟩
            have hpbU := hEU.heap hpbZ
            have hwbU := hEU.heap hwbZ
            have hrU := hEU.heap hrZ
            have hr1U := hr1Z.ev hEU
            have hr2U := hr2Z.ev hEU
            have hUs := hEU.size
            cases sn with
            | true =>
              gi_wp2
              refine ⟨⟨Nat.le_trans hkeepZ.size hUs, fun j hj hor => (hEU.block j (Nat.lt_of_lt_of_le hj hkeepZ.size)).trans (hkeepZ.block j hj hor)⟩, hbarZ.trans (Bar.ev hEU), _, _, hwbU, hr1U, ?_⟩
              rw [M.sees_snoc, HSN.out, if_pos rfl]
              exact hr2U
            | false =>
              gi_wp2
              obtain ⟨i5, hi5, hz50, hz51, hz52⟩ := info_parts info105
              obtain ⟨l0, l1, l2, l3, l4, l5, l6⟩ := cells7 hwbU
              have p3 := cell_in hpbU 0
              simp only [List.getElem?_toArray, List.getElem?_cons_zero] at p3
              obtain ⟨n0, n1', n2', n3, n4⟩ := cells5 hrU
              have hrl4 := heap_lt hrU
              have hwU := heap_lt hwbU
              have hpU := heap_lt hpbU
              have hfl : ∀ y ∈ M.sees f [] pre ++ [[z0, z1, z2, z3, z4]], (fcs y).length = 5 := fun y hy => by
                rcases List.mem_append.1 hy with hy | hy
                · have := hx5 y hy; simpa [fcs] using this
                · rw [show y = [z0, z1, z2, z3, z4] by simpa using hy]; rfl
              refine Code.wpIn_mono (Q := fun e a' W' => e = .normal ∧ ∃ V3 cc3 W6, ((U.drew.alloc (.cells #[.bool z0, .bool z1, .bool z2, .bool z3, .bool z4] 105)).grownBy W6 (Value.slice V2 (M.sees f [] pre).length cc2).ownBlock ∧ W6.ownsRow B 105 5 (.slice V3 ((M.sees f [] pre).length + 1) cc3) ((M.sees f [] pre).length + 1) ((M.sees f [] pre).flatMap fcs ++ [.bool z0, .bool z1, .bool z2, .bool z3, .bool z4]) ∧ W' = W6.setCell ⟨w.heap.size + 1, 6, none⟩ (.slice V3 ((M.sees f [] pre).length + 1) cc3)) ∧ a' = { tmps := #[.agg #[.int .i64 rs, .int .i64 D, .int .i64 f.lf.lo, .int .i64 f.lf.hi, .slice A n c], .pointer (some ⟨w.heap.size, 0, none⟩), .pointer none, .pointer (some ⟨w.heap.size + 1 + 1, 0, none⟩), .pointer (some ⟨q, 0, none⟩), .pointer (some ⟨r, 0, none⟩), .agg #[.int .i64 rs, .int .i64 D, .int .i64 f.lf.lo, .int .i64 f.lf.hi, .slice A n c], .agg #[.int .i64 rs, .int .i64 D, .int .i64 f.lf.lo, .int .i64 f.lf.hi, .slice A n c, .slice none 0 0, .slice none 0 0], .pointer (some ⟨w.heap.size + 1, 0, none⟩), .pointer (some ⟨w.heap.size + 1, 0, none⟩), .pointer (some ⟨w.heap.size + 1, 0, none⟩), .pointer (some ⟨w.heap.size + 1, 0, none⟩), .agg #[.int .i64 rs, .int .i64 D, .int .i64 f.lf.lo, .int .i64 f.lf.hi, .slice A n c], .func (.func 128) #[] #[.pointer (some ⟨w.heap.size + 1 + 1 + 1, 0, none⟩)], .agg #[.int .i64 b0, .int .i64 b1, .int .i64 b2, .int .i64 b3, .int .i64 b4, .int .i64 b5, .int .i64 b6], .pointer (some ⟨w.heap.size + 1, 0, none⟩), .pointer (some ⟨w.heap.size + 1, 0, none⟩), .pointer (some ⟨w.heap.size + 1, 0, none⟩), .agg #[.int .i64 rs, .int .i64 D, .int .i64 f.lf.lo, .int .i64 f.lf.hi, .slice A n c], .agg #[.int .i64 b0, .int .i64 b1, .int .i64 b2, .int .i64 b3, .int .i64 b4, .int .i64 b5, .int .i64 b6], .agg #[.bool z0, .bool z1, .bool z2, .bool z3, .bool z4], .agg #[.bool z0, .bool z1, .bool z2, .bool z3, .bool z4], .agg #[.bool false, .bool false, .bool false, .bool false, .bool false], .bool true, .pointer (some ⟨w.heap.size + 1, 0, none⟩), .pointer (some ⟨w.heap.size + 1, 0, none⟩), .pointer (some ⟨w.heap.size + 1, 0, none⟩), .pointer (some ⟨w.heap.size + 1, 5, none⟩), .slice V1 (M.rights f pre).length cc1, .agg #[.int .i64 b0, .int .i64 b1, .int .i64 b2, .int .i64 b3, .int .i64 b4, .int .i64 b5, .int .i64 b6], .slice (some ⟨Y.heap.size, 0, none⟩) 1 1, .slice V' ((M.rights f pre).length + 1) cc', .pointer (some ⟨w.heap.size + 1, 0, none⟩), .pointer (some ⟨w.heap.size + 1, 5, none⟩), .pointer (some ⟨w.heap.size + 1, 0, none⟩), .pointer (some ⟨w.heap.size + 1, 0, none⟩), .pointer (some ⟨w.heap.size + 1, 6, none⟩), .slice V2 (M.sees f [] pre).length cc2, .agg #[.bool z0, .bool z1, .bool z2, .bool z3, .bool z4], .bool false, .bool true, .pointer (some ⟨w.heap.size + 1, 0, none⟩), .pointer (some ⟨w.heap.size + 1, 0, none⟩), .pointer (some ⟨w.heap.size + 1, 0, none⟩), .pointer (some ⟨w.heap.size + 1, 6, none⟩), .slice V2 (M.sees f [] pre).length cc2, .agg #[.bool z0, .bool z1, .bool z2, .bool z3, .bool z4], .slice (some ⟨U.heap.size, 0, none⟩) 1 1, .slice V3 ((M.sees f [] pre).length + 1) cc3, .pointer (some ⟨w.heap.size + 1, 0, none⟩), .pointer (some ⟨w.heap.size + 1, 6, none⟩), undef], defers := [] }) ?cont8 ?reg8
              case reg8 =>
                have HSE : Hid (∀ w', Ev U w' → ∀ o, w'.cell? ⟨w.heap.size + 1 + 1, o, none⟩ = U.cell? ⟨w.heap.size + 1 + 1, o, none⟩) := hid (fun w' h o => h.cells.1 _ o hpU)
                have hEA : Ev U (U.drew.alloc (.cells #[.bool z0, .bool z1, .bool z2, .bool z3, .bool z4] 105)) := Ev.alloc (Ev.drew (Ev.refl U)) _
                have hnb : (U.drew.alloc (.cells #[.bool z0, .bool z1, .bool z2, .bool z3, .bool z4] 105)).heap[U.heap.size]? = some (.cells #[.bool z0, .bool z1, .bool z2, .bool z3, .bool z4] 105 (0, 0)) := (alloc1 U.drew _).1
                refine held_in (S := fun w' => ∀ o, w'.cell? ⟨w.heap.size + 1 + 1, o, none⟩ = U.cell? ⟨w.heap.size + 1 + 1, o, none⟩) (by kernel_rfl) rfl (fun _ _ h => by cases h.1) (fun o => rfl) (fun hHeld => ?_)
                refine wpAnyH_take (i := 0) (v := ?_) rfl (by kernel_rfl) (by kernel_rfl) (by kernel_rfl) (fun _ _ _ h => by cases h.1) (Or.inl ⟨by rfl, ?hy⟩) (by assumption) ?_
                case hy => (intro w hSw; (try dsimp only at hSw); go_simp; with_reducible rfl)
                try simp only [Act.put, List.setIfInBounds_toArray, List.set_cons_zero, List.set_cons_succ]
                refine wpAnyH_take (i := 1) (v := ?_) rfl (by kernel_rfl) (by kernel_rfl) (by kernel_rfl) (fun _ _ _ h => by cases h.1) (Or.inl ⟨by rfl, ?hy⟩) (by assumption) ?_
                case hy => (intro w hSw; (try dsimp only at hSw); go_simp; with_reducible rfl)
                try simp only [Act.put, List.setIfInBounds_toArray, List.set_cons_zero, List.set_cons_succ]
                refine wpAnyH_take (i := 2) (v := ?_) rfl (by kernel_rfl) (by kernel_rfl) (by kernel_rfl) (fun _ _ _ h => by cases h.1) (Or.inl ⟨by rfl, ?hy⟩) (by assumption) ?_
                case hy => (intro w hSw; (try dsimp only at hSw); go_simp; with_reducible rfl)
                try simp only [Act.put, List.setIfInBounds_toArray, List.set_cons_zero, List.set_cons_succ]
                refine wpAnyH_take (i := 3) (v := ?_) rfl (by kernel_rfl) (by kernel_rfl) (by kernel_rfl) (fun _ _ _ h => by cases h.1) (Or.inl ⟨by rfl, ?hy⟩) (by assumption) ?_
                case hy => (intro w hSw; (try dsimp only at hSw); go_simp; with_reducible rfl)
                try simp only [Act.put, List.setIfInBounds_toArray, List.set_cons_zero, List.set_cons_succ]
                refine wpAnyH_ready (rs := [4, 5]) (by kernel_rfl) (by simp) ?_
                refine AllReadyH.cons rfl (fun K hK => ?_) (AllReadyH.cons rfl (fun K hK => ?_) AllReadyH.nil)
                · go_simp
                  refine hK.out _ _ (HSE.out _ (Ev.drew (Ev.refl U))) (fun hHeld => ?_)
                  clear hK K
                  try simp only [Act.put, List.setIfInBounds_toArray, List.set_cons_zero, List.set_cons_succ]
                  refine wpAnyH_ready (rs := [5]) (by kernel_rfl) (by simp) ?_
                  refine AllReadyH.cons rfl (fun K hK => ?_) AllReadyH.nil
                  go_simp
                  refine hK.out _ _ (HSE.out _ (Ev.drew (Ev.refl U))) (fun hHeld => ?_)
                  clear hK K
                  try simp only [Act.put, List.setIfInBounds_toArray, List.set_cons_zero, List.set_cons_succ]
                  refine wpAnyH_ready (rs := [6]) (by kernel_rfl) (by simp) ?_
                  refine AllReadyH.cons rfl (fun K hK => ?_) AllReadyH.nil
                  go_simp
                  refine hK.out _ _ (HSE.out _ (Ev.alloc (Ev.drew (Ev.refl U)) _)) (fun hHeld => ?_)
                  clear hK K
                  try simp only [Act.put, List.setIfInBounds_toArray, List.set_cons_zero, List.set_cons_succ]
                  refine wpAnyH_ready (rs := [7]) (by kernel_rfl) (by simp) ?_
                  refine AllReadyH.cons rfl (fun K hK => ?_) AllReadyH.nil
                  refine step_append_own rfl (.tmp 45) (.tmp 47) 125 rfl B 105 i5 _ 5 5 Try.underlying125 hi5 hz50 hz51 hz52 rfl (by decide) (.slice V2 (M.sees f [] pre).length cc2) (M.sees f [] pre).length ((M.sees f [] pre).flatMap fcs) rfl (hr2U.ev hEA) ⟨U.heap.size, 0, none⟩ 1 1 [.bool z0, .bool z1, .bool z2, .bool z3, .bool z4] rfl rfl (news_in hnb) (by simp [Value.oneCell']) (by unfold maxLen; omega) (by omega) (by simp; omega) ?_
                  intro v' W6 hown' hgrow _
                  obtain ⟨V3, cc3, rfl, _⟩ := Sl.of_own (enc := fcs) (sz := 5) (n := (M.sees f [] pre).length + 1) (xs := M.sees f [] pre ++ [[z0, z1, z2, z3, z4]]) (by decide) hfl (by omega) (by rw [List.flatMap_append]; exact hown')
                  have hk6 : ∀ k, k < B → k < U.heap.size → W6.heap[k]? = U.heap[k]? := fun k hk hk2 => (hgrow.block k (Nat.lt_of_lt_of_le hk2 hEA.size) (fun e => by have := (hr2U.lt k e.symm).1; omega)).trans (hEA.block k hk2)
                  have hwb6 := (hk6 (w.heap.size + 1) (by omega) (heap_lt hwbU)).trans hwbU
                  have c65 := cell_in hwb6 6
                  have f65 := frozen_in hwb6 6
                  simp only [List.getElem?_toArray, List.getElem?_cons_succ, List.getElem?_cons_zero] at c65
                  refine hK.out _ _ (fun o => World.cell?_of_block (w := U) (hk6 (w.heap.size + 1 + 1) (by omega) (heap_lt hpbU))) (fun hHeld => ?_)
                  clear hK K
                  try simp only [Act.put, List.setIfInBounds_toArray, List.set_cons_zero, List.set_cons_succ]
                  refine wpAnyH_take (i := 8) (v := ?_) rfl (by kernel_rfl) (by kernel_rfl) (by kernel_rfl) (fun _ _ _ h => by cases h.1) (Or.inl ⟨by rfl, ?hy⟩) (by assumption) ?_
                  case hy => (intro w hSw; (try dsimp only at hSw); go_simp; with_reducible rfl)
                  try simp only [Act.put, List.setIfInBounds_toArray, List.set_cons_zero, List.set_cons_succ]
                  refine wpAnyH_take (i := 9) (v := ?_) rfl (by kernel_rfl) (by kernel_rfl) (by kernel_rfl) (fun _ _ _ h => by cases h.1) (Or.inl ⟨by rfl, ?hy⟩) (by assumption) ?_
                  case hy => (intro w hSw; (try dsimp only at hSw); go_simp; with_reducible rfl)
                  try simp only [Act.put, List.setIfInBounds_toArray, List.set_cons_zero, List.set_cons_succ]
                  refine wpAnyH_ready (rs := [10]) (by kernel_rfl) (by simp) ?_
                  refine AllReadyH.cons rfl (fun K hK => ?_) AllReadyH.nil
                  go_simp
                  refine hK.out _ _ (fun o => (World.cell?_of_block (w := W6) (Below.heap_setCell _ _ _ _ (by simp))).trans (World.cell?_of_block (w := U) (hk6 (w.heap.size + 1 + 1) (by omega) (heap_lt hpbU)))) (fun hHeld => ?_)
                  clear hK K
                  try simp only [Act.put, List.setIfInBounds_toArray, List.set_cons_zero, List.set_cons_succ]
                  exact wpAnyH_done (by kernel_rfl) ⟨rfl, V3, cc3, W6, ⟨hgrow, hown', rfl⟩, rfl⟩ _
                · go_simp
                  refine hK.out _ _ (HSE.out _ (Ev.drew (Ev.refl U))) (fun hHeld => ?_)
                  clear hK K
                  try simp only [Act.put, List.setIfInBounds_toArray, List.set_cons_zero, List.set_cons_succ]
                  refine wpAnyH_ready (rs := [4, 6]) (by kernel_rfl) (by simp) ?_
                  refine AllReadyH.cons rfl (fun K hK => ?_) (AllReadyH.cons rfl (fun K hK => ?_) AllReadyH.nil)
                  · go_simp
                    refine hK.out _ _ (HSE.out _ (Ev.drew (Ev.refl U))) (fun hHeld => ?_)
                    clear hK K
                    try simp only [Act.put, List.setIfInBounds_toArray, List.set_cons_zero, List.set_cons_succ]
                    refine wpAnyH_ready (rs := [6]) (by kernel_rfl) (by simp) ?_
                    refine AllReadyH.cons rfl (fun K hK => ?_) AllReadyH.nil
                    go_simp
                    refine hK.out _ _ (HSE.out _ (Ev.alloc (Ev.drew (Ev.refl U)) _)) (fun hHeld => ?_)
                    clear hK K
                    try simp only [Act.put, List.setIfInBounds_toArray, List.set_cons_zero, List.set_cons_succ]
                    refine wpAnyH_ready (rs := [7]) (by kernel_rfl) (by simp) ?_
                    refine AllReadyH.cons rfl (fun K hK => ?_) AllReadyH.nil
                    refine step_append_own rfl (.tmp 45) (.tmp 47) 125 rfl B 105 i5 _ 5 5 Try.underlying125 hi5 hz50 hz51 hz52 rfl (by decide) (.slice V2 (M.sees f [] pre).length cc2) (M.sees f [] pre).length ((M.sees f [] pre).flatMap fcs) rfl (hr2U.ev hEA) ⟨U.heap.size, 0, none⟩ 1 1 [.bool z0, .bool z1, .bool z2, .bool z3, .bool z4] rfl rfl (news_in hnb) (by simp [Value.oneCell']) (by unfold maxLen; omega) (by omega) (by simp; omega) ?_
                    intro v' W6 hown' hgrow _
                    obtain ⟨V3, cc3, rfl, _⟩ := Sl.of_own (enc := fcs) (sz := 5) (n := (M.sees f [] pre).length + 1) (xs := M.sees f [] pre ++ [[z0, z1, z2, z3, z4]]) (by decide) hfl (by omega) (by rw [List.flatMap_append]; exact hown')
                    have hk6 : ∀ k, k < B → k < U.heap.size → W6.heap[k]? = U.heap[k]? := fun k hk hk2 => (hgrow.block k (Nat.lt_of_lt_of_le hk2 hEA.size) (fun e => by have := (hr2U.lt k e.symm).1; omega)).trans (hEA.block k hk2)
                    have hwb6 := (hk6 (w.heap.size + 1) (by omega) (heap_lt hwbU)).trans hwbU
                    have c65 := cell_in hwb6 6
                    have f65 := frozen_in hwb6 6
                    simp only [List.getElem?_toArray, List.getElem?_cons_succ, List.getElem?_cons_zero] at c65
                    refine hK.out _ _ (fun o => World.cell?_of_block (w := U) (hk6 (w.heap.size + 1 + 1) (by omega) (heap_lt hpbU))) (fun hHeld => ?_)
                    clear hK K
                    try simp only [Act.put, List.setIfInBounds_toArray, List.set_cons_zero, List.set_cons_succ]
                    refine wpAnyH_take (i := 8) (v := ?_) rfl (by kernel_rfl) (by kernel_rfl) (by kernel_rfl) (fun _ _ _ h => by cases h.1) (Or.inl ⟨by rfl, ?hy⟩) (by assumption) ?_
                    case hy => (intro w hSw; (try dsimp only at hSw); go_simp; with_reducible rfl)
                    try simp only [Act.put, List.setIfInBounds_toArray, List.set_cons_zero, List.set_cons_succ]
                    refine wpAnyH_take (i := 9) (v := ?_) rfl (by kernel_rfl) (by kernel_rfl) (by kernel_rfl) (fun _ _ _ h => by cases h.1) (Or.inl ⟨by rfl, ?hy⟩) (by assumption) ?_
                    case hy => (intro w hSw; (try dsimp only at hSw); go_simp; with_reducible rfl)
                    try simp only [Act.put, List.setIfInBounds_toArray, List.set_cons_zero, List.set_cons_succ]
                    refine wpAnyH_ready (rs := [10]) (by kernel_rfl) (by simp) ?_
                    refine AllReadyH.cons rfl (fun K hK => ?_) AllReadyH.nil
                    go_simp
                    refine hK.out _ _ (fun o => (World.cell?_of_block (w := W6) (Below.heap_setCell _ _ _ _ (by simp))).trans (World.cell?_of_block (w := U) (hk6 (w.heap.size + 1 + 1) (by omega) (heap_lt hpbU)))) (fun hHeld => ?_)
                    clear hK K
                    try simp only [Act.put, List.setIfInBounds_toArray, List.set_cons_zero, List.set_cons_succ]
                    exact wpAnyH_done (by kernel_rfl) ⟨rfl, V3, cc3, W6, ⟨hgrow, hown', rfl⟩, rfl⟩ _
                  · go_simp
                    refine hK.out _ _ (HSE.out _ (Ev.alloc (Ev.drew (Ev.refl U)) _)) (fun hHeld => ?_)
                    clear hK K
                    try simp only [Act.put, List.setIfInBounds_toArray, List.set_cons_zero, List.set_cons_succ]
                    refine wpAnyH_ready (rs := [4]) (by kernel_rfl) (by simp) ?_
                    refine AllReadyH.cons rfl (fun K hK => ?_) AllReadyH.nil
                    go_simp
                    refine hK.out _ _ (HSE.out _ (Ev.alloc (Ev.drew (Ev.refl U)) _)) (fun hHeld => ?_)
                    clear hK K
                    try simp only [Act.put, List.setIfInBounds_toArray, List.set_cons_zero, List.set_cons_succ]
                    refine wpAnyH_ready (rs := [7]) (by kernel_rfl) (by simp) ?_
                    refine AllReadyH.cons rfl (fun K hK => ?_) AllReadyH.nil
                    refine step_append_own rfl (.tmp 45) (.tmp 47) 125 rfl B 105 i5 _ 5 5 Try.underlying125 hi5 hz50 hz51 hz52 rfl (by decide) (.slice V2 (M.sees f [] pre).length cc2) (M.sees f [] pre).length ((M.sees f [] pre).flatMap fcs) rfl (hr2U.ev hEA) ⟨U.heap.size, 0, none⟩ 1 1 [.bool z0, .bool z1, .bool z2, .bool z3, .bool z4] rfl rfl (news_in hnb) (by simp [Value.oneCell']) (by unfold maxLen; omega) (by omega) (by simp; omega) ?_
                    intro v' W6 hown' hgrow _
                    obtain ⟨V3, cc3, rfl, _⟩ := Sl.of_own (enc := fcs) (sz := 5) (n := (M.sees f [] pre).length + 1) (xs := M.sees f [] pre ++ [[z0, z1, z2, z3, z4]]) (by decide) hfl (by omega) (by rw [List.flatMap_append]; exact hown')
                    have hk6 : ∀ k, k < B → k < U.heap.size → W6.heap[k]? = U.heap[k]? := fun k hk hk2 => (hgrow.block k (Nat.lt_of_lt_of_le hk2 hEA.size) (fun e => by have := (hr2U.lt k e.symm).1; omega)).trans (hEA.block k hk2)
                    have hwb6 := (hk6 (w.heap.size + 1) (by omega) (heap_lt hwbU)).trans hwbU
                    have c65 := cell_in hwb6 6
                    have f65 := frozen_in hwb6 6
                    simp only [List.getElem?_toArray, List.getElem?_cons_succ, List.getElem?_cons_zero] at c65
                    refine hK.out _ _ (fun o => World.cell?_of_block (w := U) (hk6 (w.heap.size + 1 + 1) (by omega) (heap_lt hpbU))) (fun hHeld => ?_)
                    clear hK K
                    try simp only [Act.put, List.setIfInBounds_toArray, List.set_cons_zero, List.set_cons_succ]
                    refine wpAnyH_take (i := 8) (v := ?_) rfl (by kernel_rfl) (by kernel_rfl) (by kernel_rfl) (fun _ _ _ h => by cases h.1) (Or.inl ⟨by rfl, ?hy⟩) (by assumption) ?_
                    case hy => (intro w hSw; (try dsimp only at hSw); go_simp; with_reducible rfl)
                    try simp only [Act.put, List.setIfInBounds_toArray, List.set_cons_zero, List.set_cons_succ]
                    refine wpAnyH_take (i := 9) (v := ?_) rfl (by kernel_rfl) (by kernel_rfl) (by kernel_rfl) (fun _ _ _ h => by cases h.1) (Or.inl ⟨by rfl, ?hy⟩) (by assumption) ?_
                    case hy => (intro w hSw; (try dsimp only at hSw); go_simp; with_reducible rfl)
                    try simp only [Act.put, List.setIfInBounds_toArray, List.set_cons_zero, List.set_cons_succ]
                    refine wpAnyH_ready (rs := [10]) (by kernel_rfl) (by simp) ?_
                    refine AllReadyH.cons rfl (fun K hK => ?_) AllReadyH.nil
                    go_simp
                    refine hK.out _ _ (fun o => (World.cell?_of_block (w := W6) (Below.heap_setCell _ _ _ _ (by simp))).trans (World.cell?_of_block (w := U) (hk6 (w.heap.size + 1 + 1) (by omega) (heap_lt hpbU)))) (fun hHeld => ?_)
                    clear hK K
                    try simp only [Act.put, List.setIfInBounds_toArray, List.set_cons_zero, List.set_cons_succ]
                    exact wpAnyH_done (by kernel_rfl) ⟨rfl, V3, cc3, W6, ⟨hgrow, hown', rfl⟩, rfl⟩ _
              case cont8 =>
                rintro e a' W' ⟨rfl, V3, cc3, W6, ⟨hgrow, hown', rfl⟩, rfl⟩
                have hEA : Ev U (U.drew.alloc (.cells #[.bool z0, .bool z1, .bool z2, .bool z3, .bool z4] 105)) := Ev.alloc (Ev.drew (Ev.refl U)) _
                have hk6 : ∀ k, k < U.heap.size → (Value.slice V2 (M.sees f [] pre).length cc2).ownBlock ≠ some k → W6.heap[k]? = U.heap[k]? := fun k hk2 hne => (hgrow.block k (Nat.lt_of_lt_of_le hk2 hEA.size) (fun e => hne e.symm)).trans (hEA.block k hk2)
                have hlow : ∀ k, k < B → (Value.slice V2 (M.sees f [] pre).length cc2).ownBlock ≠ some k := fun k hk e => by have := (hr2U.lt k e).1; omega
                have hwb6 := (hk6 (w.heap.size + 1) (heap_lt hwbU) (hlow _ (by omega))).trans hwbU
                have h61 := ownsRow_setCell_below (a := ⟨w.heap.size + 1, 6, none⟩) ((hr1U.ev hEA).kept hgrow (own_ne (hr2U.ev hEA) (hr1U.ev hEA) (by decide))) (show w.heap.size + 1 < B by omega) (.slice V3 ((M.sees f [] pre).length + 1) cc3)
                have h62 := ownsRow_setCell_below (a := ⟨w.heap.size + 1, 6, none⟩) hown' (show w.heap.size + 1 < B by omega) (.slice V3 ((M.sees f [] pre).length + 1) cc3)
                have hU6 : U.heap.size ≤ W6.heap.size := Nat.le_trans hEA.size hgrow.size
                have hsz6 : (W6.setCell ⟨w.heap.size + 1, 6, none⟩ (.slice V3 ((M.sees f [] pre).length + 1) cc3)).heap.size = W6.heap.size := by simp [World.setCell]
                gi_wp2
                refine ⟨⟨by rw [hsz6]; exact Nat.le_trans (Nat.le_trans hkeepZ.size hUs) hU6, fun j hj hor => ?_⟩, ⟨?_, ?_, ?_, ?_, fun j hj hn => ?_⟩, _, _, by rw [set_heap_same hwb6]; rfl, h61, ?_⟩
                · have hjZ := Nat.lt_of_lt_of_le hj hkeepZ.size
                  exact (Below.heap_setCell _ _ _ j (by simp; omega)).trans ((hk6 j (Nat.lt_of_lt_of_le hjZ hUs) (hlow j (by omega))).trans ((hEU.block j hjZ).trans (hkeepZ.block j hj hor)))
                · exact hgrow.os.trans (hEU.os.trans hbarZ.os)
                · exact hgrow.tape.trans (hEU.tape.trans hbarZ.tape)
                · exact hgrow.output.trans (hEU.output.trans hbarZ.output)
                · rw [hsz6]; exact Nat.le_trans (Nat.le_trans hbarZ.size hUs) hU6
                · have hjZ := Nat.lt_of_lt_of_le hj hbarZ.size
                  exact (Below.heap_setCell _ _ _ j (by simp; omega)).trans ((hk6 j (Nat.lt_of_lt_of_le hjZ hUs) (hlow j (by omega))).trans ((hEU.block j hjZ).trans (hbarZ.block j hj hn)))
                · rw [M.sees_snoc, HSN.out, if_neg (by decide), List.flatMap_append, List.length_append, HZE.out]
                  exact h62
      | false =>
        gi_wp2
        have hpbZ := hpbY
        have hwbZ := hwbY
        have hrZ := hcr
        have hrt : M.rights f (pre ++ [x]) = M.rights f pre := by unfold M.rights; rw [List.filter_append]; simp [HG.out]
        have hr1Z := hr1Y
        rw [← hrt] at hr1Z hwbZ
        have hr2Z := hr2Y
        have hkeepZ : Kept (fun k => k = w.heap.size + 3) W1.heap.size B X Y := ⟨hE4.size, fun j hj _ => hE4.block j hj⟩
        have hbarZ : Bar (w.heap.size + 1) (w.heap.size + 2) W1 Y := hbar.trans (Bar.ev hE4)
        have hs2Z := sl_own (enc := fcs) (sz := 5) (by decide) (fun y hy => by have := hx5 y hy; simpa [fcs] using this) (by omega) hr2Z
        clear k0 k1 k2 k3 k4 k5 k6 p1
        obtain ⟨Z, hYZ⟩ : ∃ Z, Z = Y := ⟨_, rfl⟩
        subst hYZ
        obtain ⟨k0, k1, k2, k3, k4, k5, k6⟩ := cells7 hwbZ
        have p2 := cell_in hpbZ 0
        simp only [List.getElem?_toArray, List.getElem?_cons_zero] at p2
        obtain ⟨m0, m1, m2, m3, m4⟩ := cells5 hrZ
        have hrl3 := heap_lt hrZ
        have hwZ := heap_lt hwbZ
        have hpZ := heap_lt hpbZ
        have hcn := fun W (hE : Ev Z W) => conF_c V2 (M.sees f [] pre).length cc2 (M.sees f [] pre) (M.wrong f x) (M.wrong_len f x) hx5 W (hs2Z.ev hE)
        generalize hsn : ((M.sees f [] pre).any (fun x_1 => decide (M.wrong f x = x_1))) = sn at hcn
        rw [HZE.out] at hcn
        simp only [bv, List.map_cons, List.map_nil] at hcn
        have HCN := hid hcn
        have HSN := hid hsn
        clear hcn hsn
        gi_wp2
        refine Code.wpIn_mono (Q := fun e a' W' => e = .normal ∧ (Ev Z W') ∧ a' = { tmps := #[.agg #[.int .i64 rs, .int .i64 D, .int .i64 f.lf.lo, .int .i64 f.lf.hi, .slice A n c], .pointer (some ⟨w.heap.size, 0, none⟩), .pointer none, .pointer (some ⟨w.heap.size + 1 + 1, 0, none⟩), .pointer (some ⟨q, 0, none⟩), .pointer (some ⟨r, 0, none⟩), .agg #[.int .i64 rs, .int .i64 D, .int .i64 f.lf.lo, .int .i64 f.lf.hi, .slice A n c], .agg #[.int .i64 rs, .int .i64 D, .int .i64 f.lf.lo, .int .i64 f.lf.hi, .slice A n c, .slice none 0 0, .slice none 0 0], .pointer (some ⟨w.heap.size + 1, 0, none⟩), .pointer (some ⟨w.heap.size + 1, 0, none⟩), .pointer (some ⟨w.heap.size + 1, 0, none⟩), .pointer (some ⟨w.heap.size + 1, 0, none⟩), .agg #[.int .i64 rs, .int .i64 D, .int .i64 f.lf.lo, .int .i64 f.lf.hi, .slice A n c], .func (.func 128) #[] #[.pointer (some ⟨w.heap.size + 1 + 1 + 1, 0, none⟩)], .agg #[.int .i64 b0, .int .i64 b1, .int .i64 b2, .int .i64 b3, .int .i64 b4, .int .i64 b5, .int .i64 b6], .pointer (some ⟨w.heap.size + 1, 0, none⟩), .pointer (some ⟨w.heap.size + 1, 0, none⟩), .pointer (some ⟨w.heap.size + 1, 0, none⟩), .agg #[.int .i64 rs, .int .i64 D, .int .i64 f.lf.lo, .int .i64 f.lf.hi, .slice A n c], .agg #[.int .i64 b0, .int .i64 b1, .int .i64 b2, .int .i64 b3, .int .i64 b4, .int .i64 b5, .int .i64 b6], .agg #[.bool z0, .bool z1, .bool z2, .bool z3, .bool z4], .agg #[.bool z0, .bool z1, .bool z2, .bool z3, .bool z4], .agg #[.bool false, .bool false, .bool false, .bool false, .bool false], .bool false, undef, undef, undef, undef, undef, undef, undef, undef, undef, undef, .pointer (some ⟨w.heap.size + 1, 0, none⟩), .pointer (some ⟨w.heap.size + 1, 0, none⟩), .pointer (some ⟨w.heap.size + 1, 6, none⟩), .slice V2 (M.sees f [] pre).length cc2, .agg #[.bool z0, .bool z1, .bool z2, .bool z3, .bool z4], .bool sn, .bool (!sn), undef, undef, undef, undef, undef, undef, undef, undef, undef, undef, undef], defers := [] }) ?cont7 ?reg7
        case reg7 =>
          have HSE : Hid (∀ w', Ev Z w' → Ev Z w' ∧ (∀ b o, b < Z.heap.size → w'.cell? ⟨b, o, none⟩ = Z.cell? ⟨b, o, none⟩)) := hid (fun w' h => ⟨h, fun b o hb => h.cells.1 b o hb⟩)
          refine held_in (S := fun w' => Ev Z w' ∧ (∀ b o, b < Z.heap.size → w'.cell? ⟨b, o, none⟩ = Z.cell? ⟨b, o, none⟩)) (by kernel_rfl) rfl (fun _ _ h => by cases h.1) ⟨Ev.drew (Ev.refl Z), fun b o hb => rfl⟩ (fun hHeld => ?_)
          refine wpAnyH_take (i := 0) (v := ?_) rfl (by kernel_rfl) (by kernel_rfl) (by kernel_rfl) (fun _ _ _ h => by cases h.1) (Or.inl ⟨by rfl, ?hy⟩) (by assumption) ?_
          case hy => (intro w hSw; (try dsimp only at hSw); go_simp; with_reducible rfl)
          try simp only [Act.put, List.setIfInBounds_toArray, List.set_cons_zero, List.set_cons_succ]
          refine wpAnyH_take (i := 1) (v := ?_) rfl (by kernel_rfl) (by kernel_rfl) (by kernel_rfl) (fun _ _ _ h => by cases h.1) (Or.inl ⟨by rfl, ?hy⟩) (by assumption) ?_
          case hy => (intro w hSw; (try dsimp only at hSw); go_simp; with_reducible rfl)
          try simp only [Act.put, List.setIfInBounds_toArray, List.set_cons_zero, List.set_cons_succ]
          refine wpAnyH_take (i := 2) (v := ?_) rfl (by kernel_rfl) (by kernel_rfl) (by kernel_rfl) (fun _ _ _ h => by cases h.1) (Or.inl ⟨by rfl, ?hy⟩) (by assumption) ?_
          case hy => (intro w hSw; (try dsimp only at hSw); go_simp; with_reducible rfl)
          try simp only [Act.put, List.setIfInBounds_toArray, List.set_cons_zero, List.set_cons_succ]
          refine wpAnyH_take (i := 3) (v := ?_) rfl (by kernel_rfl) (by kernel_rfl) (by kernel_rfl) (fun _ _ _ h => by cases h.1) (Or.inl ⟨by rfl, ?hy⟩) (by assumption) ?_
          case hy => (intro w hSw; (try dsimp only at hSw); go_simp; with_reducible rfl)
          try simp only [Act.put, List.setIfInBounds_toArray, List.set_cons_zero, List.set_cons_succ]
          refine wpAnyH_take (i := 4) (v := ?_) rfl (by kernel_rfl) (by kernel_rfl) (by kernel_rfl) (fun _ _ _ h => by cases h.1) (Or.inl ⟨by rfl, ?hy⟩) (by assumption) ?_
          case hy => (intro w hSw; (try dsimp only at hSw); go_simp; with_reducible rfl)
          try simp only [Act.put, List.setIfInBounds_toArray, List.set_cons_zero, List.set_cons_succ]
          refine wpAnyH_ready (rs := [5]) (by kernel_rfl) (by simp) ?_
          refine AllReadyH.cons rfl (fun K hK => ?_) AllReadyH.nil
          go_simp
          refine (HCN.out _ (Ev.drew (Ev.refl Z))).mono ?_
          rintro e W5 ⟨rfl, hE5⟩
          have hE6 : Ev Z W5 := Ev.trans (Ev.drew (Ev.refl Z)) hE5
          refine hK.out _ _ (HSE.out _ hE6) (fun hHeld => ?_)
          clear hK K
          try simp only [Act.put, List.setIfInBounds_toArray, List.set_cons_zero, List.set_cons_succ]
          refine wpAnyH_ready (rs := [6]) (by kernel_rfl) (by simp) ?_
          refine AllReadyH.cons rfl (fun K hK => ?_) AllReadyH.nil
          go_simp
          refine hK.out _ _ (HSE.out _ hE6) (fun hHeld => ?_)
          clear hK K
          try simp only [Act.put, List.setIfInBounds_toArray, List.set_cons_zero, List.set_cons_succ]
          exact wpAnyH_done (by kernel_rfl) ⟨rfl, hE6, rfl⟩ _
        case cont7 =>
          rintro e a' U ⟨rfl, hEU, rfl⟩
          have hpbU := hEU.heap hpbZ
          have hwbU := hEU.heap hwbZ
          have hrU := hEU.heap hrZ
          have hr1U := hr1Z.ev hEU
          have hr2U := hr2Z.ev hEU
          have hUs := hEU.size
          cases sn with
          | true =>
            gi_wp2
            refine ⟨⟨Nat.le_trans hkeepZ.size hUs, fun j hj hor => (hEU.block j (Nat.lt_of_lt_of_le hj hkeepZ.size)).trans (hkeepZ.block j hj hor)⟩, hbarZ.trans (Bar.ev hEU), _, _, hwbU, hr1U, ?_⟩
            rw [M.sees_snoc, HSN.out, if_pos rfl]
            exact hr2U
          | false =>
            gi_wp2
            obtain ⟨i5, hi5, hz50, hz51, hz52⟩ := info_parts info105
            obtain ⟨l0, l1, l2, l3, l4, l5, l6⟩ := cells7 hwbU
            have p3 := cell_in hpbU 0
            simp only [List.getElem?_toArray, List.getElem?_cons_zero] at p3
            obtain ⟨n0, n1', n2', n3, n4⟩ := cells5 hrU
            have hrl4 := heap_lt hrU
            have hwU := heap_lt hwbU
            have hpU := heap_lt hpbU
            have hfl : ∀ y ∈ M.sees f [] pre ++ [[z0, z1, z2, z3, z4]], (fcs y).length = 5 := fun y hy => by
              rcases List.mem_append.1 hy with hy | hy
              · have := hx5 y hy; simpa [fcs] using this
              · rw [show y = [z0, z1, z2, z3, z4] by simpa using hy]; rfl
            refine Code.wpIn_mono (Q := fun e a' W' => e = .normal ∧ ∃ V3 cc3 W6, ((U.drew.alloc (.cells #[.bool z0, .bool z1, .bool z2, .bool z3, .bool z4] 105)).grownBy W6 (Value.slice V2 (M.sees f [] pre).length cc2).ownBlock ∧ W6.ownsRow B 105 5 (.slice V3 ((M.sees f [] pre).length + 1) cc3) ((M.sees f [] pre).length + 1) ((M.sees f [] pre).flatMap fcs ++ [.bool z0, .bool z1, .bool z2, .bool z3, .bool z4]) ∧ W' = W6.setCell ⟨w.heap.size + 1, 6, none⟩ (.slice V3 ((M.sees f [] pre).length + 1) cc3)) ∧ a' = { tmps := #[.agg #[.int .i64 rs, .int .i64 D, .int .i64 f.lf.lo, .int .i64 f.lf.hi, .slice A n c], .pointer (some ⟨w.heap.size, 0, none⟩), .pointer none, .pointer (some ⟨w.heap.size + 1 + 1, 0, none⟩), .pointer (some ⟨q, 0, none⟩), .pointer (some ⟨r, 0, none⟩), .agg #[.int .i64 rs, .int .i64 D, .int .i64 f.lf.lo, .int .i64 f.lf.hi, .slice A n c], .agg #[.int .i64 rs, .int .i64 D, .int .i64 f.lf.lo, .int .i64 f.lf.hi, .slice A n c, .slice none 0 0, .slice none 0 0], .pointer (some ⟨w.heap.size + 1, 0, none⟩), .pointer (some ⟨w.heap.size + 1, 0, none⟩), .pointer (some ⟨w.heap.size + 1, 0, none⟩), .pointer (some ⟨w.heap.size + 1, 0, none⟩), .agg #[.int .i64 rs, .int .i64 D, .int .i64 f.lf.lo, .int .i64 f.lf.hi, .slice A n c], .func (.func 128) #[] #[.pointer (some ⟨w.heap.size + 1 + 1 + 1, 0, none⟩)], .agg #[.int .i64 b0, .int .i64 b1, .int .i64 b2, .int .i64 b3, .int .i64 b4, .int .i64 b5, .int .i64 b6], .pointer (some ⟨w.heap.size + 1, 0, none⟩), .pointer (some ⟨w.heap.size + 1, 0, none⟩), .pointer (some ⟨w.heap.size + 1, 0, none⟩), .agg #[.int .i64 rs, .int .i64 D, .int .i64 f.lf.lo, .int .i64 f.lf.hi, .slice A n c], .agg #[.int .i64 b0, .int .i64 b1, .int .i64 b2, .int .i64 b3, .int .i64 b4, .int .i64 b5, .int .i64 b6], .agg #[.bool z0, .bool z1, .bool z2, .bool z3, .bool z4], .agg #[.bool z0, .bool z1, .bool z2, .bool z3, .bool z4], .agg #[.bool false, .bool false, .bool false, .bool false, .bool false], .bool false, undef, undef, undef, undef, undef, undef, undef, undef, undef, undef, .pointer (some ⟨w.heap.size + 1, 0, none⟩), .pointer (some ⟨w.heap.size + 1, 0, none⟩), .pointer (some ⟨w.heap.size + 1, 6, none⟩), .slice V2 (M.sees f [] pre).length cc2, .agg #[.bool z0, .bool z1, .bool z2, .bool z3, .bool z4], .bool false, .bool true, .pointer (some ⟨w.heap.size + 1, 0, none⟩), .pointer (some ⟨w.heap.size + 1, 0, none⟩), .pointer (some ⟨w.heap.size + 1, 0, none⟩), .pointer (some ⟨w.heap.size + 1, 6, none⟩), .slice V2 (M.sees f [] pre).length cc2, .agg #[.bool z0, .bool z1, .bool z2, .bool z3, .bool z4], .slice (some ⟨U.heap.size, 0, none⟩) 1 1, .slice V3 ((M.sees f [] pre).length + 1) cc3, .pointer (some ⟨w.heap.size + 1, 0, none⟩), .pointer (some ⟨w.heap.size + 1, 6, none⟩), undef], defers := [] }) ?cont8 ?reg8
            case reg8 =>
              have HSE : Hid (∀ w', Ev U w' → ∀ o, w'.cell? ⟨w.heap.size + 1 + 1, o, none⟩ = U.cell? ⟨w.heap.size + 1 + 1, o, none⟩) := hid (fun w' h o => h.cells.1 _ o hpU)
              have hEA : Ev U (U.drew.alloc (.cells #[.bool z0, .bool z1, .bool z2, .bool z3, .bool z4] 105)) := Ev.alloc (Ev.drew (Ev.refl U)) _
              have hnb : (U.drew.alloc (.cells #[.bool z0, .bool z1, .bool z2, .bool z3, .bool z4] 105)).heap[U.heap.size]? = some (.cells #[.bool z0, .bool z1, .bool z2, .bool z3, .bool z4] 105 (0, 0)) := (alloc1 U.drew _).1
              refine held_in (S := fun w' => ∀ o, w'.cell? ⟨w.heap.size + 1 + 1, o, none⟩ = U.cell? ⟨w.heap.size + 1 + 1, o, none⟩) (by kernel_rfl) rfl (fun _ _ h => by cases h.1) (fun o => rfl) (fun hHeld => ?_)
              refine wpAnyH_take (i := 0) (v := ?_) rfl (by kernel_rfl) (by kernel_rfl) (by kernel_rfl) (fun _ _ _ h => by cases h.1) (Or.inl ⟨by rfl, ?hy⟩) (by assumption) ?_
              case hy => (intro w hSw; (try dsimp only at hSw); go_simp; with_reducible rfl)
              try simp only [Act.put, List.setIfInBounds_toArray, List.set_cons_zero, List.set_cons_succ]
              refine wpAnyH_take (i := 1) (v := ?_) rfl (by kernel_rfl) (by kernel_rfl) (by kernel_rfl) (fun _ _ _ h => by cases h.1) (Or.inl ⟨by rfl, ?hy⟩) (by assumption) ?_
              case hy => (intro w hSw; (try dsimp only at hSw); go_simp; with_reducible rfl)
              try simp only [Act.put, List.setIfInBounds_toArray, List.set_cons_zero, List.set_cons_succ]
              refine wpAnyH_take (i := 2) (v := ?_) rfl (by kernel_rfl) (by kernel_rfl) (by kernel_rfl) (fun _ _ _ h => by cases h.1) (Or.inl ⟨by rfl, ?hy⟩) (by assumption) ?_
              case hy => (intro w hSw; (try dsimp only at hSw); go_simp; with_reducible rfl)
              try simp only [Act.put, List.setIfInBounds_toArray, List.set_cons_zero, List.set_cons_succ]
              refine wpAnyH_take (i := 3) (v := ?_) rfl (by kernel_rfl) (by kernel_rfl) (by kernel_rfl) (fun _ _ _ h => by cases h.1) (Or.inl ⟨by rfl, ?hy⟩) (by assumption) ?_
              case hy => (intro w hSw; (try dsimp only at hSw); go_simp; with_reducible rfl)
              try simp only [Act.put, List.setIfInBounds_toArray, List.set_cons_zero, List.set_cons_succ]
              refine wpAnyH_ready (rs := [4, 5]) (by kernel_rfl) (by simp) ?_
              refine AllReadyH.cons rfl (fun K hK => ?_) (AllReadyH.cons rfl (fun K hK => ?_) AllReadyH.nil)
              · go_simp
                refine hK.out _ _ (HSE.out _ (Ev.drew (Ev.refl U))) (fun hHeld => ?_)
                clear hK K
                try simp only [Act.put, List.setIfInBounds_toArray, List.set_cons_zero, List.set_cons_succ]
                refine wpAnyH_ready (rs := [5]) (by kernel_rfl) (by simp) ?_
                refine AllReadyH.cons rfl (fun K hK => ?_) AllReadyH.nil
                go_simp
                refine hK.out _ _ (HSE.out _ (Ev.drew (Ev.refl U))) (fun hHeld => ?_)
                clear hK K
                try simp only [Act.put, List.setIfInBounds_toArray, List.set_cons_zero, List.set_cons_succ]
                refine wpAnyH_ready (rs := [6]) (by kernel_rfl) (by simp) ?_
                refine AllReadyH.cons rfl (fun K hK => ?_) AllReadyH.nil
                go_simp
                refine hK.out _ _ (HSE.out _ (Ev.alloc (Ev.drew (Ev.refl U)) _)) (fun hHeld => ?_)
                clear hK K
                try simp only [Act.put, List.setIfInBounds_toArray, List.set_cons_zero, List.set_cons_succ]
                refine wpAnyH_ready (rs := [7]) (by kernel_rfl) (by simp) ?_
                refine AllReadyH.cons rfl (fun K hK => ?_) AllReadyH.nil
                refine step_append_own rfl (.tmp 45) (.tmp 47) 125 rfl B 105 i5 _ 5 5 Try.underlying125 hi5 hz50 hz51 hz52 rfl (by decide) (.slice V2 (M.sees f [] pre).length cc2) (M.sees f [] pre).length ((M.sees f [] pre).flatMap fcs) rfl (hr2U.ev hEA) ⟨U.heap.size, 0, none⟩ 1 1 [.bool z0, .bool z1, .bool z2, .bool z3, .bool z4] rfl rfl (news_in hnb) (by simp [Value.oneCell']) (by unfold maxLen; omega) (by omega) (by simp; omega) ?_
                intro v' W6 hown' hgrow _
                obtain ⟨V3, cc3, rfl, _⟩ := Sl.of_own (enc := fcs) (sz := 5) (n := (M.sees f [] pre).length + 1) (xs := M.sees f [] pre ++ [[z0, z1, z2, z3, z4]]) (by decide) hfl (by omega) (by rw [List.flatMap_append]; exact hown')
                have hk6 : ∀ k, k < B → k < U.heap.size → W6.heap[k]? = U.heap[k]? := fun k hk hk2 => (hgrow.block k (Nat.lt_of_lt_of_le hk2 hEA.size) (fun e => by have := (hr2U.lt k e.symm).1; omega)).trans (hEA.block k hk2)
                have hwb6 := (hk6 (w.heap.size + 1) (by omega) (heap_lt hwbU)).trans hwbU
                have c65 := cell_in hwb6 6
                have f65 := frozen_in hwb6 6
                simp only [List.getElem?_toArray, List.getElem?_cons_succ, List.getElem?_cons_zero] at c65
                refine hK.out _ _ (fun o => World.cell?_of_block (w := U) (hk6 (w.heap.size + 1 + 1) (by omega) (heap_lt hpbU))) (fun hHeld => ?_)
                clear hK K
                try simp only [Act.put, List.setIfInBounds_toArray, List.set_cons_zero, List.set_cons_succ]
                refine wpAnyH_take (i := 8) (v := ?_) rfl (by kernel_rfl) (by kernel_rfl) (by kernel_rfl) (fun _ _ _ h => by cases h.1) (Or.inl ⟨by rfl, ?hy⟩) (by assumption) ?_
                case hy => (intro w hSw; (try dsimp only at hSw); go_simp; with_reducible rfl)
                try simp only [Act.put, List.setIfInBounds_toArray, List.set_cons_zero, List.set_cons_succ]
                refine wpAnyH_take (i := 9) (v := ?_) rfl (by kernel_rfl) (by kernel_rfl) (by kernel_rfl) (fun _ _ _ h => by cases h.1) (Or.inl ⟨by rfl, ?hy⟩) (by assumption) ?_
                case hy => (intro w hSw; (try dsimp only at hSw); go_simp; with_reducible rfl)
                try simp only [Act.put, List.setIfInBounds_toArray, List.set_cons_zero, List.set_cons_succ]
                refine wpAnyH_ready (rs := [10]) (by kernel_rfl) (by simp) ?_
                refine AllReadyH.cons rfl (fun K hK => ?_) AllReadyH.nil
                go_simp
                refine hK.out _ _ (fun o => (World.cell?_of_block (w := W6) (Below.heap_setCell _ _ _ _ (by simp))).trans (World.cell?_of_block (w := U) (hk6 (w.heap.size + 1 + 1) (by omega) (heap_lt hpbU)))) (fun hHeld => ?_)
                clear hK K
                try simp only [Act.put, List.setIfInBounds_toArray, List.set_cons_zero, List.set_cons_succ]
                exact wpAnyH_done (by kernel_rfl) ⟨rfl, V3, cc3, W6, ⟨hgrow, hown', rfl⟩, rfl⟩ _
              · go_simp
                refine hK.out _ _ (HSE.out _ (Ev.drew (Ev.refl U))) (fun hHeld => ?_)
                clear hK K
                try simp only [Act.put, List.setIfInBounds_toArray, List.set_cons_zero, List.set_cons_succ]
                refine wpAnyH_ready (rs := [4, 6]) (by kernel_rfl) (by simp) ?_
                refine AllReadyH.cons rfl (fun K hK => ?_) (AllReadyH.cons rfl (fun K hK => ?_) AllReadyH.nil)
                · go_simp
                  refine hK.out _ _ (HSE.out _ (Ev.drew (Ev.refl U))) (fun hHeld => ?_)
                  clear hK K
                  try simp only [Act.put, List.setIfInBounds_toArray, List.set_cons_zero, List.set_cons_succ]
                  refine wpAnyH_ready (rs := [6]) (by kernel_rfl) (by simp) ?_
                  refine AllReadyH.cons rfl (fun K hK => ?_) AllReadyH.nil
                  go_simp
                  refine hK.out _ _ (HSE.out _ (Ev.alloc (Ev.drew (Ev.refl U)) _)) (fun hHeld => ?_)
                  clear hK K
                  try simp only [Act.put, List.setIfInBounds_toArray, List.set_cons_zero, List.set_cons_succ]
                  refine wpAnyH_ready (rs := [7]) (by kernel_rfl) (by simp) ?_
                  refine AllReadyH.cons rfl (fun K hK => ?_) AllReadyH.nil
                  refine step_append_own rfl (.tmp 45) (.tmp 47) 125 rfl B 105 i5 _ 5 5 Try.underlying125 hi5 hz50 hz51 hz52 rfl (by decide) (.slice V2 (M.sees f [] pre).length cc2) (M.sees f [] pre).length ((M.sees f [] pre).flatMap fcs) rfl (hr2U.ev hEA) ⟨U.heap.size, 0, none⟩ 1 1 [.bool z0, .bool z1, .bool z2, .bool z3, .bool z4] rfl rfl (news_in hnb) (by simp [Value.oneCell']) (by unfold maxLen; omega) (by omega) (by simp; omega) ?_
                  intro v' W6 hown' hgrow _
                  obtain ⟨V3, cc3, rfl, _⟩ := Sl.of_own (enc := fcs) (sz := 5) (n := (M.sees f [] pre).length + 1) (xs := M.sees f [] pre ++ [[z0, z1, z2, z3, z4]]) (by decide) hfl (by omega) (by rw [List.flatMap_append]; exact hown')
                  have hk6 : ∀ k, k < B → k < U.heap.size → W6.heap[k]? = U.heap[k]? := fun k hk hk2 => (hgrow.block k (Nat.lt_of_lt_of_le hk2 hEA.size) (fun e => by have := (hr2U.lt k e.symm).1; omega)).trans (hEA.block k hk2)
                  have hwb6 := (hk6 (w.heap.size + 1) (by omega) (heap_lt hwbU)).trans hwbU
                  have c65 := cell_in hwb6 6
                  have f65 := frozen_in hwb6 6
                  simp only [List.getElem?_toArray, List.getElem?_cons_succ, List.getElem?_cons_zero] at c65
                  refine hK.out _ _ (fun o => World.cell?_of_block (w := U) (hk6 (w.heap.size + 1 + 1) (by omega) (heap_lt hpbU))) (fun hHeld => ?_)
                  clear hK K
                  try simp only [Act.put, List.setIfInBounds_toArray, List.set_cons_zero, List.set_cons_succ]
                  refine wpAnyH_take (i := 8) (v := ?_) rfl (by kernel_rfl) (by kernel_rfl) (by kernel_rfl) (fun _ _ _ h => by cases h.1) (Or.inl ⟨by rfl, ?hy⟩) (by assumption) ?_
                  case hy => (intro w hSw; (try dsimp only at hSw); go_simp; with_reducible rfl)
                  try simp only [Act.put, List.setIfInBounds_toArray, List.set_cons_zero, List.set_cons_succ]
                  refine wpAnyH_take (i := 9) (v := ?_) rfl (by kernel_rfl) (by kernel_rfl) (by kernel_rfl) (fun _ _ _ h => by cases h.1) (Or.inl ⟨by rfl, ?hy⟩) (by assumption) ?_
                  case hy => (intro w hSw; (try dsimp only at hSw); go_simp; with_reducible rfl)
                  try simp only [Act.put, List.setIfInBounds_toArray, List.set_cons_zero, List.set_cons_succ]
                  refine wpAnyH_ready (rs := [10]) (by kernel_rfl) (by simp) ?_
                  refine AllReadyH.cons rfl (fun K hK => ?_) AllReadyH.nil
                  go_simp
                  refine hK.out _ _ (fun o => (World.cell?_of_block (w := W6) (Below.heap_setCell _ _ _ _ (by simp))).trans (World.cell?_of_block (w := U) (hk6 (w.heap.size + 1 + 1) (by omega) (heap_lt hpbU)))) (fun hHeld => ?_)
                  clear hK K
                  try simp only [Act.put, List.setIfInBounds_toArray, List.set_cons_zero, List.set_cons_succ]
                  exact wpAnyH_done (by kernel_rfl) ⟨rfl, V3, cc3, W6, ⟨hgrow, hown', rfl⟩, rfl⟩ _
                · go_simp
                  refine hK.out _ _ (HSE.out _ (Ev.alloc (Ev.drew (Ev.refl U)) _)) (fun hHeld => ?_)
                  clear hK K
                  try simp only [Act.put, List.setIfInBounds_toArray, List.set_cons_zero, List.set_cons_succ]
                  refine wpAnyH_ready (rs := [4]) (by kernel_rfl) (by simp) ?_
                  refine AllReadyH.cons rfl (fun K hK => ?_) AllReadyH.nil
                  go_simp
                  refine hK.out _ _ (HSE.out _ (Ev.alloc (Ev.drew (Ev.refl U)) _)) (fun hHeld => ?_)
                  clear hK K
                  try simp only [Act.put, List.setIfInBounds_toArray, List.set_cons_zero, List.set_cons_succ]
                  refine wpAnyH_ready (rs := [7]) (by kernel_rfl) (by simp) ?_
                  refine AllReadyH.cons rfl (fun K hK => ?_) AllReadyH.nil
                  refine step_append_own rfl (.tmp 45) (.tmp 47) 125 rfl B 105 i5 _ 5 5 Try.underlying125 hi5 hz50 hz51 hz52 rfl (by decide) (.slice V2 (M.sees f [] pre).length cc2) (M.sees f [] pre).length ((M.sees f [] pre).flatMap fcs) rfl (hr2U.ev hEA) ⟨U.heap.size, 0, none⟩ 1 1 [.bool z0, .bool z1, .bool z2, .bool z3, .bool z4] rfl rfl (news_in hnb) (by simp [Value.oneCell']) (by unfold maxLen; omega) (by omega) (by simp; omega) ?_
                  intro v' W6 hown' hgrow _
                  obtain ⟨V3, cc3, rfl, _⟩ := Sl.of_own (enc := fcs) (sz := 5) (n := (M.sees f [] pre).length + 1) (xs := M.sees f [] pre ++ [[z0, z1, z2, z3, z4]]) (by decide) hfl (by omega) (by rw [List.flatMap_append]; exact hown')
                  have hk6 : ∀ k, k < B → k < U.heap.size → W6.heap[k]? = U.heap[k]? := fun k hk hk2 => (hgrow.block k (Nat.lt_of_lt_of_le hk2 hEA.size) (fun e => by have := (hr2U.lt k e.symm).1; omega)).trans (hEA.block k hk2)
                  have hwb6 := (hk6 (w.heap.size + 1) (by omega) (heap_lt hwbU)).trans hwbU
                  have c65 := cell_in hwb6 6
                  have f65 := frozen_in hwb6 6
                  simp only [List.getElem?_toArray, List.getElem?_cons_succ, List.getElem?_cons_zero] at c65
                  refine hK.out _ _ (fun o => World.cell?_of_block (w := U) (hk6 (w.heap.size + 1 + 1) (by omega) (heap_lt hpbU))) (fun hHeld => ?_)
                  clear hK K
                  try simp only [Act.put, List.setIfInBounds_toArray, List.set_cons_zero, List.set_cons_succ]
                  refine wpAnyH_take (i := 8) (v := ?_) rfl (by kernel_rfl) (by kernel_rfl) (by kernel_rfl) (fun _ _ _ h => by cases h.1) (Or.inl ⟨by rfl, ?hy⟩) (by assumption) ?_
                  case hy => (intro w hSw; (try dsimp only at hSw); go_simp; with_reducible rfl)
                  try simp only [Act.put, List.setIfInBounds_toArray, List.set_cons_zero, List.set_cons_succ]
                  refine wpAnyH_take (i := 9) (v := ?_) rfl (by kernel_rfl) (by kernel_rfl) (by kernel_rfl) (fun _ _ _ h => by cases h.1) (Or.inl ⟨by rfl, ?hy⟩) (by assumption) ?_
                  case hy => (intro w hSw; (try dsimp only at hSw); go_simp; with_reducible rfl)
                  try simp only [Act.put, List.setIfInBounds_toArray, List.set_cons_zero, List.set_cons_succ]
                  refine wpAnyH_ready (rs := [10]) (by kernel_rfl) (by simp) ?_
                  refine AllReadyH.cons rfl (fun K hK => ?_) AllReadyH.nil
                  go_simp
                  refine hK.out _ _ (fun o => (World.cell?_of_block (w := W6) (Below.heap_setCell _ _ _ _ (by simp))).trans (World.cell?_of_block (w := U) (hk6 (w.heap.size + 1 + 1) (by omega) (heap_lt hpbU)))) (fun hHeld => ?_)
                  clear hK K
                  try simp only [Act.put, List.setIfInBounds_toArray, List.set_cons_zero, List.set_cons_succ]
                  exact wpAnyH_done (by kernel_rfl) ⟨rfl, V3, cc3, W6, ⟨hgrow, hown', rfl⟩, rfl⟩ _
            case cont8 =>
              rintro e a' W' ⟨rfl, V3, cc3, W6, ⟨hgrow, hown', rfl⟩, rfl⟩
              have hEA : Ev U (U.drew.alloc (.cells #[.bool z0, .bool z1, .bool z2, .bool z3, .bool z4] 105)) := Ev.alloc (Ev.drew (Ev.refl U)) _
              have hk6 : ∀ k, k < U.heap.size → (Value.slice V2 (M.sees f [] pre).length cc2).ownBlock ≠ some k → W6.heap[k]? = U.heap[k]? := fun k hk2 hne => (hgrow.block k (Nat.lt_of_lt_of_le hk2 hEA.size) (fun e => hne e.symm)).trans (hEA.block k hk2)
              have hlow : ∀ k, k < B → (Value.slice V2 (M.sees f [] pre).length cc2).ownBlock ≠ some k := fun k hk e => by have := (hr2U.lt k e).1; omega
              have hwb6 := (hk6 (w.heap.size + 1) (heap_lt hwbU) (hlow _ (by omega))).trans hwbU
              have h61 := ownsRow_setCell_below (a := ⟨w.heap.size + 1, 6, none⟩) ((hr1U.ev hEA).kept hgrow (own_ne (hr2U.ev hEA) (hr1U.ev hEA) (by decide))) (show w.heap.size + 1 < B by omega) (.slice V3 ((M.sees f [] pre).length + 1) cc3)
              have h62 := ownsRow_setCell_below (a := ⟨w.heap.size + 1, 6, none⟩) hown' (show w.heap.size + 1 < B by omega) (.slice V3 ((M.sees f [] pre).length + 1) cc3)
              have hU6 : U.heap.size ≤ W6.heap.size := Nat.le_trans hEA.size hgrow.size
              have hsz6 : (W6.setCell ⟨w.heap.size + 1, 6, none⟩ (.slice V3 ((M.sees f [] pre).length + 1) cc3)).heap.size = W6.heap.size := by simp [World.setCell]
              gi_wp2
              refine ⟨⟨by rw [hsz6]; exact Nat.le_trans (Nat.le_trans hkeepZ.size hUs) hU6, fun j hj hor => ?_⟩, ⟨?_, ?_, ?_, ?_, fun j hj hn => ?_⟩, _, _, by rw [set_heap_same hwb6]; rfl, h61, ?_⟩
              · have hjZ := Nat.lt_of_lt_of_le hj hkeepZ.size
                exact (Below.heap_setCell _ _ _ j (by simp; omega)).trans ((hk6 j (Nat.lt_of_lt_of_le hjZ hUs) (hlow j (by omega))).trans ((hEU.block j hjZ).trans (hkeepZ.block j hj hor)))
              · exact hgrow.os.trans (hEU.os.trans hbarZ.os)
              · exact hgrow.tape.trans (hEU.tape.trans hbarZ.tape)
              · exact hgrow.output.trans (hEU.output.trans hbarZ.output)
              · rw [hsz6]; exact Nat.le_trans (Nat.le_trans hbarZ.size hUs) hU6
              · have hjZ := Nat.lt_of_lt_of_le hj hbarZ.size
                exact (Below.heap_setCell _ _ _ j (by simp; omega)).trans ((hk6 j (Nat.lt_of_lt_of_le hjZ hUs) (hlow j (by omega))).trans ((hEU.block j hjZ).trans (hbarZ.block j hj hn)))
              · rw [M.sees_snoc, HSN.out, if_neg (by decide), List.flatMap_append, List.length_append, HZE.out]
                exact h62
  case done =>
    rintro B X hB ⟨hbar, v1, v2, hwb, hr1, hr2⟩ hD
    have hEX : Below w.heap.size w X := Below.trans hEw (hbar.below (by omega) (by omega))
    have hpb := (hbar.block _ (heap_lt hK2.out) (by omega)).trans hK2.out
    have p0 := cell_in hpb 0
    simp only [List.getElem?_toArray, List.getElem?_cons_zero] at p0
    have hl1 : (M.rights f (M.fill f D rs [])).length ≤ 16384 := Nat.le_trans (List.length_filter_le _ _) hmax
    have hl2 : (M.sees f [] (M.fill f D rs [])).length ≤ 16384 := Nat.le_trans (M.sees_len f _ _) (by simpa using hmax)
    have hx5 := M.sees_5 f [] (M.fill f D rs []) (by simp)
    have hxr : ∀ x ∈ M.rights f (M.fill f D rs []), x.length = 7 := fun x hx => hxs7 x (List.mem_filter.1 hx).1
    have hXs := hbar.size
    gi_wp2
    show LeavesInM Fence.wide 9 Try.prog Try.f91 _ _ (marks [W1.heap.size]) .returning X
    refine leaves_marks (A := w.heap.size) [W1.heap.size] X (by simp) (fun E hE => ?_) (fun w' hb' hk' => ?_)
    · rw [show E = W1.heap.size by simpa using hE]; exact ⟨by omega, hD⟩
    · have hnm : ∀ (j : Nat) (o : Obj), X.heap[j]? = some o → o.isCells = true → w'.heap[j]? = some o := fun j o ho hcl => by
        refine (hk' j (fun hm => ?_)).trans ho
        rw [show j = W1.heap.size by simpa using hm, hD] at ho
        cases ho
        cases hcl
      obtain ⟨A1, c1, rfl, hs1⟩ := Sl.of_own (enc := scs) (sz := 7) (by decide) (fun x hx => by simpa [scs] using hxr x hx) (by omega) (ownsRow_cells hr1 hnm)
      obtain ⟨A2, c2, rfl, hs2⟩ := Sl.of_own (enc := fcs) (sz := 5) (by decide) (fun x hx => by simpa [fcs] using hx5 x hx) (by omega) (ownsRow_cells hr2 hnm)
      have hEw' : Ev w w' := Below.trans hEX hb'
      have hwb2 := hnm _ _ hwb rfl
      have hr1' := ownsRow_cells hr1 hnm
      have hr2' := ownsRow_cells hr2 hnm
      refine ⟨_, results_tmp rfl _ _ _, ⟨w.heap.size + 1, A1, A2, c1, c2, rfl, fun Y hYs hYb => ⟨?_, hYs, sl_own (by decide) (fun x hx => by simpa [scs] using hxr x hx) (by omega) (ownsRow_fresh hr1' (fun k hk hk2 => hYb k (by omega) hk2)), sl_own (by decide) (fun x hx => by simpa [fcs] using hx5 x hx) (by omega) (ownsRow_fresh hr2' (fun k hk hk2 => hYb k (by omega) hk2)), hxr, hx5, by omega, by omega, by omega, by omega⟩⟩, hEw'⟩
      rw [hYb _ (by omega) (heap_lt hwb2), hwb2]
      unfold wcells
      rw [hrs, hD']
  case stop =>
    rintro B c pre X hB hpre h hD
    exact h.elim

end Go.Proofs.Ytcecmphdmpeibaa
