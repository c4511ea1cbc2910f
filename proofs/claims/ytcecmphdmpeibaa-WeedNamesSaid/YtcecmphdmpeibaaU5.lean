/- Contracts of package weed's functions, joined; see each part's theorems. -/
import Derived.Test.YtcecmphdmpeibaaU4
import Derived.Laws.AppendOwnNone
import Derived.ProofKit
import Derived.OpenShut
import Derived.Carry
import Derived.ChangeSame

set_option linter.unusedSimpArgs false
set_option linter.unusedVariables false
namespace Go.Proofs.Ytcecmphdmpeibaa
open Go.RowKit

set_option maxHeartbeats 400000 in
theorem between_c (a b : Int) (w : World) :
    Calls Try.prog 49 #[.int .i64 a, .int .i64 b] w fun e w' => e = .returned (.agg #[.int .i64 a, .int .i64 b]) ∧ Ev w w' := by
  go_enter Try.func49, Try.ntmps49
  go_wp2
  refine bodyPost_ret (v := .agg #[.int .i64 a, .int .i64 b]) (by simp [results, Try.results49, go_sem]) rfl ⟨rfl, ?_⟩
  all_goals (repeat first | exact Ev.refl _ | refine Ev.alloc ?_ _ | refine Ev.setCell ?_ (by simp) _)

set_option maxHeartbeats 400000 in
theorem to_c (r : M.Rg) (w : World) :
    Calls Try.prog 30 #[.agg #[.int .i64 r.lo, .int .i64 r.hi]] w fun e w' => e = .returned (.agg #[.int .i64 r.lo, .int .i64 r.hi]) ∧ Ev w w' := by
  go_enter Try.func30, Try.ntmps30
  go_wp2
  refine bodyPost_ret (v := .agg #[.int .i64 r.lo, .int .i64 r.hi]) (by simp [results, Try.results30, go_sem]) rfl ⟨rfl, ?_⟩
  all_goals (repeat first | exact Ev.refl _ | refine Ev.alloc ?_ _ | refine Ev.setCell ?_ (by simp) _)

def M.two : M.Tl := ⟨0, 0, 1, ⟨2, 2⟩⟩
def M.bad : M.Tl := ⟨1, 0, 1, ⟨2, 2⟩⟩

set_option maxHeartbeats 400000 in
theorem two_c (w : World) :
    Calls Try.prog 50 #[] w fun e w' => e = .returned (.agg #[.int .i64 0, .int .i64 0, .int .i64 1, .int .i64 2, .int .i64 2]) ∧ Ev w w' := by
  go_enter Try.func50, Try.ntmps50
  go_wp2_with (go_at_call 49; ((with_reducible refine (between_c 2 2 _).mono ?_); rintro e w1 ⟨rfl, hb1⟩; have hq := hb1.heap (alloc1 w (.cells #[.int .i64 0, .int .i64 0, .int .i64 0, .int .i64 0, .int .i64 0] 73)).1; obtain ⟨g0, g1, g2, g3, g4⟩ := cells5 hq; obtain ⟨f0, f1, f2, f3, f4⟩ := frz5 hq; have HQ := hid hq; clear hq))
  have hF := set5 HQ.out (v0 := .int .i64 0) (v1 := .int .i64 0) (v2 := .int .i64 1) (v3 := .int .i64 2) (v4 := .int .i64 2)
  obtain ⟨x0, x1, x2, x3, x4⟩ := cells5 hF
  refine bodyPost_ret (v := .agg #[.int .i64 0, .int .i64 0, .int .i64 1, .int .i64 2, .int .i64 2]) (by simp [results, Try.results50, go_sem, x0, x1, x2, x3, x4]) rfl ⟨rfl, ?_⟩
  refine Ev.setCell (Ev.setCell (Ev.setCell (Ev.setCell (Ev.setCell (Ev.trans (Ev.alloc (Ev.refl _) _) hb1) ?_ _) ?_ _) ?_ _) ?_ _) ?_ _ <;> simp

set_option maxHeartbeats 400000 in
theorem bad_c (w : World) :
    Calls Try.prog 51 #[] w fun e w' => e = .returned (.agg #[.int .i64 1, .int .i64 0, .int .i64 1, .int .i64 2, .int .i64 2]) ∧ Ev w w' := by
  go_enter Try.func51, Try.ntmps51
  go_wp2_with (go_at_call 49; ((with_reducible refine (between_c 2 2 _).mono ?_); rintro e w1 ⟨rfl, hb1⟩; have hq := hb1.heap (alloc1 w (.cells #[.int .i64 0, .int .i64 0, .int .i64 0, .int .i64 0, .int .i64 0] 73)).1; obtain ⟨g0, g1, g2, g3, g4⟩ := cells5 hq; obtain ⟨f0, f1, f2, f3, f4⟩ := frz5 hq; have HQ := hid hq; clear hq))
  have hF := set5 HQ.out (v0 := .int .i64 1) (v1 := .int .i64 0) (v2 := .int .i64 1) (v3 := .int .i64 2) (v4 := .int .i64 2)
  obtain ⟨x0, x1, x2, x3, x4⟩ := cells5 hF
  refine bodyPost_ret (v := .agg #[.int .i64 1, .int .i64 0, .int .i64 1, .int .i64 2, .int .i64 2]) (by simp [results, Try.results51, go_sem, x0, x1, x2, x3, x4]) rfl ⟨rfl, ?_⟩
  refine Ev.setCell (Ev.setCell (Ev.setCell (Ev.setCell (Ev.setCell (Ev.trans (Ev.alloc (Ev.refl _) _) hb1) ?_ _) ?_ _) ?_ _) ?_ _) ?_ _ <;> simp

def M.same_ (a b : List Int) : Bool := decide (a = b)

set_option maxRecDepth 100000 in
set_option maxHeartbeats 1000000 in
theorem same_c (A B : Option Addr) (n c m d : Nat) (a b : List Int) (w : World) (ha : Sl ics 1 w w.heap.size A n c a) (hb : Sl ics 1 w w.heap.size B m d b) :
    Calls Try.prog 34 #[.slice A n c, .slice B m d] w fun e w' => e = .returned (.bool (decide (a = b))) ∧ Ev w w' := by
  have hsm := ha.small
  have hsm' := hb.small
  by_cases hl : n = m
  · subst hl
    have hla := ha.len
    have hlb := hb.len
    have HLA := hid hla
    have HLB := hid hlb
    clear hla hlb
    have hne : ((n : Int) != (n : Int)) = false := by simp
    go_enter Try.func34, Try.ntmps34
    go_wp2
    go_loopw [5] (fun i wr => ∃ k : Nat, i = .int .i64 k ∧ k ≤ n ∧ Ev w wr ∧ Hid (a.take k = b.take k)) (fun i _ => n - (intOf i).toNat)
    case atStart => exact ⟨0, rfl, by omega, Ev.refl _, hid rfl⟩
    case round =>
      obtain ⟨k, rfl, hk, hE, HT⟩ := hrel
      by_cases hlt : k < n
      · obtain ⟨b1, o1, x, rfl, hb1, hx, hxd, e1⟩ := ha.int hE hlt
        obtain ⟨b2, o2, y, rfl, hb2, hy, hyd, e2⟩ := hb.int hE hlt
        have HX := hid hx
        have HY := hid hy
        clear hx hy hxd hyd
        by_cases hxy : x = y
        · have hne2 : (x != y) = false := by simpa using hxy
          have HXY := hid hxy
          clear hxy
          go_wp2_with (go_quiet (fail))
          refine ⟨⟨k + 1, by go_num, by omega, hE.drewN _, hid ?_⟩, by simp [intOf]; omega⟩
          rw [List.take_add_one, List.take_add_one, HT.out, HX.out, HY.out, HXY.out]
        · have hne2 : (x != y) = true := by simpa using hxy
          have hab : decide (a = b) = false := by
            rw [decide_eq_false_iff_not]
            intro e
            have h1 := HX.out
            rw [e, HY.out] at h1
            exact hxy (by simpa using h1.symm)
          have HAB := hid hab
          clear hxy hab
          go_wp2_with (go_quiet (fail))
          go_ret
          exact ⟨ret_bool HAB.out.symm, hE.drewN _⟩
      · have hkn : k = n := by omega
        subst hkn
        have hT := HT.out
        rw [List.take_of_length_le (by rw [HLA.out]; exact Nat.le_refl _), List.take_of_length_le (by rw [HLB.out]; exact Nat.le_refl _)] at hT
        have HT2 := hid hT
        clear hT
        go_wp2
        go_ret
        exact ⟨ret_bool (by rw [HT2.out]; simp), hE⟩
  · have hne : ((n : Int) != (m : Int)) = true := by simpa using (show ¬ (n : Int) = m by omega)
    have hab : decide (a = b) = false := by
      rw [decide_eq_false_iff_not]
      intro e
      exact hl (by rw [← ha.len, ← hb.len, e])
    have HAB := hid hab
    clear hl hab
    go_enter Try.func34, Try.ntmps34
    go_wp2
    go_ret
    exact ⟨ret_bool HAB.out.symm, Ev.refl _⟩

end Go.Proofs.Ytcecmphdmpeibaa

namespace Go.Proofs.Ytcecmphdmpeibaa
open Go.RowKit

theorem sl_news {α : Type} {enc : α → List Value} {sz : Nat} (hsz : 0 < sz) {w : World} {B : Nat} {ad : Addr} {m c : Nat} {ys : List α} (hs : Sl enc sz w B (some ad) m c ys) (henc : ∀ y ∈ ys, (enc y).length = sz) :
    ∀ (j : Nat) (u : Value), (ys.flatMap enc)[j]? = some u → w.cell? (ad.add j) = some u := by
  intro j u hj
  have hlt : j < (ys.flatMap enc).length := (List.getElem?_eq_some_iff.1 hj).1
  rw [flat_len enc sz ys henc, hs.len] at hlt
  have hm : 0 < m := by
    rcases Nat.eq_zero_or_pos m with h | h
    · subst h; simp at hlt
    · exact h
  obtain ⟨b, off, hA, _, hc⟩ := hs.cells hm
  obtain rfl : ad = ⟨b, off, none⟩ := by simpa using hA
  have hk : j / sz < m := Nat.div_lt_of_lt_mul (by rw [Nat.mul_comm]; exact hlt)
  have hx : ys[j / sz]? = some (ys[j / sz]'(by rw [hs.len]; exact hk)) := List.getElem?_eq_getElem _
  have he := henc _ (List.mem_of_getElem? hx)
  have hv : (enc (ys[j / sz]'(by rw [hs.len]; exact hk)))[j % sz]? = some ((enc (ys[j / sz]'(by rw [hs.len]; exact hk)))[j % sz]'(by rw [he]; exact Nat.mod_lt _ hsz)) := List.getElem?_eq_getElem _
  have hf := flat_get enc sz ys henc _ _ hx _ _ hv
  have hjj : j / sz * sz + j % sz = j := by rw [Nat.mul_comm]; exact Nat.div_add_mod j sz
  rw [hjj, hj] at hf
  have hcc := hc _ _ hx _ _ hv
  rw [← hf, Nat.add_assoc, hjj] at hcc
  rw [show (⟨b, off, none⟩ : Addr).add j = ⟨b, off + j, none⟩ from by unfold Addr.add; split <;> simp_all]
  exact hcc

/-- append(s, x...): s a row of the call's own, x whatever reads as a list. -/
theorem append_sl {α : Type} {enc : α → List Value} {P : Program} {w : World} {ops : Array Oper} {rest : List Oper} {o : Oper} {a : Act} {Q : Exit → Act → World → Prop} (hgd : o.guard = none) (s x : Operand) (t : TypeId)
    (ho : o.op = .call { callee := .builtin .append, args := #[s, x], argTypes := #[t, t] })
    (base : Nat) (e : TypeId) (i : TypeInfo) (z : Value) (size bytes : Nat) (ht : P.underlying t = some (.slice e)) (hi : P.info? e = some i) (hz : i.zero = some z)
    (hsize : i.size = size) (hby : i.bytes = bytes) (hzs : z.cells.size = size) (hsz : 0 < size)
    (v : Value) (n : Nat) (xs : List α) (hs : a.eval s = v) (hown : w.ownsRow base e size v n (xs.flatMap enc))
    (A : Option Addr) (m c : Nat) (ys : List α) (B : Nat) (hx : a.eval x = .slice A m c) (hsl : Sl enc size w B A m c ys) (henc : ∀ y ∈ ys, (enc y).length = size) (h1 : ∀ u ∈ ys.flatMap enc, u.oneCell' = true) (hnil : A = none → c = 0)
    (h63 : n + m ≤ maxLen) (hbytes : (n + m) * bytes ≤ 140737488355328) (hbase : base ≤ w.heap.size)
    (h : ∀ v' w', w'.ownsRow base e size v' (n + m) ((xs ++ ys).flatMap enc) → w.grownBy w' v.ownBlock → wpList P ops Q rest (a.put o.dst v') w') : wpList P ops Q (o :: rest) a w := by
  cases A with
  | none =>
    have hm : m = 0 := by
      rcases Nat.eq_zero_or_pos m with h | h
      · exact h
      · obtain ⟨b, off, hA, _⟩ := hsl.cells h; cases hA
    subst hm
    obtain rfl : c = 0 := hnil rfl
    obtain rfl : ys = [] := List.eq_nil_of_length_eq_zero hsl.len
    refine wpList_append_own_none hgd s x t ho base e i size ht hi v n _ hs hown hx (h v w ?_ ⟨rfl, rfl, rfl, Nat.le_refl _, fun _ _ _ => rfl⟩)
    simpa using hown
  | some ad =>
    refine wpList_append_own w hgd s x t ho base e i z size bytes ht hi hz hsize hby hzs hsz v n _ hs hown ad m c (ys.flatMap enc) hx (by rw [flat_len enc size ys henc, hsl.len]) (sl_news hsz hsl henc) h1 h63 hbytes hbase fun v' w' h2 h3 _ => h v' w' ?_ h3
    rw [List.flatMap_append]; exact h2

theorem info73 : (Try.prog.info? 73).map (fun i => (i.zero, i.size, i.bytes)) = some (some (.agg #[.int .i64 0, .int .i64 0, .int .i64 0, .int .i64 0, .int .i64 0]), 5, 40) := by kernel_rfl
theorem tcs_len (ys : List M.Tl) : ∀ y ∈ ys, (tcs y).length = 5 := fun _ _ => rfl
theorem tcs_one (ys : List M.Tl) : ∀ u ∈ ys.flatMap tcs, u.oneCell' = true := by
  intro u hu
  obtain ⟨y, _, hu⟩ := List.mem_flatMap.1 hu
  simp only [tcs, List.mem_cons, List.not_mem_nil, or_false] at hu
  rcases hu with rfl | rfl | rfl | rfl | rfl <;> rfl

def M.four2 : List M.Tl := [⟨0, 0, 2, ⟨2, 3⟩⟩, ⟨1, 2, 3, ⟨1, 2⟩⟩]
/-- The field of the document's examples, with some more tallies. -/
def M.four (ms : List M.Tl) : M.Fl := ⟨4, 2, ⟨0, 0⟩, M.four2 ++ ms⟩

set_option maxRecDepth 100000 in
set_option maxHeartbeats 1000000 in
theorem four_c (A : Option Addr) (m c : Nat) (ms : List M.Tl) (w : World) (hs : Sl tcs 5 w w.heap.size A m c ms) (hm : m ≤ 10) (hnil : A = none → c = 0) :
    Calls Try.prog 48 #[.slice A m c] w fun e w' => (∃ B d, e = .returned (fv (M.four ms) (.slice B (2 + m) d)) ∧ Sl tcs 5 w' w'.heap.size B (2 + m) d (M.four ms).ts) ∧ Ev w w' := by
  obtain ⟨i0, hi, hz0, hz1, hz2⟩ := info_parts info73
  have HS := hid hs
  clear hs
  unfold fv
  have hQ := (alloc1 w (.cells #[.int .i64 0, .int .i64 0, .int .i64 0, .int .i64 0, .slice none 0 0] 36)).1
  have HQ := hid hQ
  clear hQ
  have hzs : (Value.agg #[.int .i64 0, .int .i64 0, .int .i64 0, .int .i64 0, .int .i64 0]).cells.size = 5 := rfl
  go_enter Try.func48, Try.ntmps48
  go_wp2_with (first | (go_at_call 49; ((with_reducible refine (between_c 2 3 _).mono ?_); rintro e w1 ⟨rfl, hb1⟩)) | (go_at_call 49; ((with_reducible refine (between_c 1 2 _).mono ?_); rintro e w2 ⟨rfl, hb2⟩; have hz3 := (hb1.trans hb2).size; simp at hz3)) | (at_builtin; refine append_sl (enc := tcs) rfl (.tmp 7) (.tmp 8) 34 rfl (w.heap.size + 1) 73 i0 _ 5 40 Try.underlying34 hi hz0 hz1 hz2 hzs (by decide) _ 2 M.four2 rfl (World.ownsRow_lit w2 _ 2 hz3 (by decide) rfl) A m c ms _ rfl (HS.out.ev ((Ev.trans (Ev.trans (Ev.alloc (Ev.refl _) _) hb1) hb2).alloc _)) (tcs_len _) (tcs_one _) hnil (by unfold maxLen; omega) (by omega) (by simp; omega) ?_; intro v' w3 hown' hgrow; obtain ⟨B, d, rfl, hsl⟩ := Sl.of_own (enc := tcs) (sz := 5) (by decide) (tcs_len _) (by omega) hown'; have hq3 := (hgrow.block w.heap.size (by simp; omega) (fun e => by have e2 : some w.heap.size = some w2.heap.size := e; simp at e2; omega)).trans (((Ev.trans (Ev.trans (Ev.refl _) hb1) hb2).alloc _).heap HQ.out); obtain ⟨g0, g1, g2, g3, g4⟩ := cells5 hq3; obtain ⟨f0, f1, f2, f3, f4⟩ := frz5 hq3; have HQ3 := hid hq3; clear hq3))
  have hE3 : Ev w w3 := Ev.grown ((Ev.trans (Ev.trans (Ev.alloc (Ev.refl _) _) hb1) hb2).alloc _) hgrow (fun k e => by have e2 : some w2.heap.size = some k := e; simp at e2; omega)
  have hF := set5 HQ3.out (v0 := .int .i64 4) (v1 := .int .i64 2) (v2 := .int .i64 0) (v3 := .int .i64 0) (v4 := .slice B (2 + m) d)
  obtain ⟨x0, x1, x2, x3, x4⟩ := cells5 hF
  have hown5 := ownsRow_setCell_below (ownsRow_setCell_below (ownsRow_setCell_below (ownsRow_setCell_below (ownsRow_setCell_below hown' (a := ⟨w.heap.size, 0, none⟩) (by simp) (.int .i64 4)) (a := ⟨w.heap.size, 1, none⟩) (by simp) (.int .i64 2)) (a := ⟨w.heap.size, 2, none⟩) (by simp) (.int .i64 0)) (a := ⟨w.heap.size, 3, none⟩) (by simp) (.int .i64 0)) (a := ⟨w.heap.size, 4, none⟩) (by simp) (.slice B (2 + m) d)
  obtain ⟨B', d', hv', hsl5⟩ := Sl.of_own (enc := tcs) (sz := 5) (by decide) (tcs_len _) (by omega) hown5
  obtain ⟨rfl, rfl⟩ : B = B' ∧ d = d' := by simpa using hv'
  have hE5 := Ev.setCell (Ev.setCell (Ev.setCell (Ev.setCell (Ev.setCell hE3 (p := ⟨w.heap.size, 0, none⟩) (Nat.le_refl _) (.int .i64 4)) (p := ⟨w.heap.size, 1, none⟩) (Nat.le_refl _) (.int .i64 2)) (p := ⟨w.heap.size, 2, none⟩) (Nat.le_refl _) (.int .i64 0)) (p := ⟨w.heap.size, 3, none⟩) (Nat.le_refl _) (.int .i64 0)) (p := ⟨w.heap.size, 4, none⟩) (Nat.le_refl _) (.slice B (2 + m) d)
  clear hF hown5 hv' hown' hsl g0 g1 g2 g3 g4 f0 f1 f2 f3 f4
  refine bodyPost_ret (v := .agg #[.int .i64 4, .int .i64 2, .int .i64 0, .int .i64 0, .slice B (2 + m) d]) (by simp [results, Try.results48, go_sem, x0, x1, x2, x3, x4]) rfl ⟨⟨B, d, rfl, ?_⟩, ?_⟩
  · exact hsl5
  · exact hE5

end Go.Proofs.Ytcecmphdmpeibaa

namespace Go.Proofs.Ytcecmphdmpeibaa
open Go.RowKit

theorem aw1 : M.begin (M.four []) true = 0 ∧ M.done (M.four []) = [⟨2, 3⟩, ⟨1, 2⟩] := by decide +kernel
theorem aw2 : M.begin (M.four []) (M.hasRow (M.four []) 3) = 0 ∧ M.who (M.four []) 3 (M.truths (M.four [])) = [0, 1] := by decide +kernel
theorem aw3 : M.begin (M.four [M.two]) (M.hasWd (M.four [M.two]) 0) = 0 ∧ M.askBest (M.four [M.two]) 0 = [2, 3] := by decide +kernel
theorem aw4 : M.begin (M.four []) (M.hasWd (M.four []) 0) = 0 ∧ M.Next (M.four []) 0 = (0, 3) := by decide +kernel
theorem aw5 : M.First (M.four [M.bad]) = (2, 0) := by decide +kernel
theorem aw6 : M.check (M.four [M.bad]) = 0 ∧ M.leaveBest (M.four [M.bad]) = [0] := by decide +kernel

end Go.Proofs.Ytcecmphdmpeibaa

namespace Go.Proofs.Ytcecmphdmpeibaa
open Go.RowKit

theorem sl_lit {α : Type} {enc : α → List Value} {sz : Nat} (w : World) (t : TypeId) (xs : List α) (n : Nat) (cs : Array Value) (hn : xs.length = n) (hsm : n ≤ 1099511627776) (henc : ∀ x ∈ xs, (enc x).length = sz) (hcs : cs.toList = xs.flatMap enc) :
    Sl enc sz (w.alloc (.cells cs t)) (w.alloc (.cells cs t)).heap.size (some ⟨w.heap.size, 0, none⟩) n n xs := by
  refine ⟨hn, Nat.le_refl _, hsm, fun _ => ⟨w.heap.size, 0, rfl, by simp, fun k x hk j v hj => ?_⟩⟩
  rw [cell_in (alloc1 w _).1, Nat.zero_add, ← Array.getElem?_toList, hcs]
  exact flat_get enc sz xs henc k x hk j v hj

theorem four0_c (W : World) : Calls Try.prog 48 #[.slice none 0 0] W fun e w' => (∃ B d, e = .returned (.agg #[.int .i64 4, .int .i64 2, .int .i64 0, .int .i64 0, .slice B 2 d]) ∧ Sl tcs 5 w' w'.heap.size B 2 d (M.four []).ts) ∧ Ev W w' :=
  four_c none 0 0 [] W ⟨rfl, Nat.le_refl _, by omega, fun h => by omega⟩ (by omega) (fun _ => rfl)
theorem four1_c (W : World) : Calls Try.prog 48 #[.slice (some ⟨W.heap.size, 0, none⟩) 1 1] (W.alloc (.cells #[.int .i64 0, .int .i64 0, .int .i64 1, .int .i64 2, .int .i64 2] 73)) fun e w' => (∃ B d, e = .returned (.agg #[.int .i64 4, .int .i64 2, .int .i64 0, .int .i64 0, .slice B 3 d]) ∧ Sl tcs 5 w' w'.heap.size B 3 d (M.four [M.two]).ts) ∧ Ev W w' :=
  Calls.mono (four_c (some ⟨W.heap.size, 0, none⟩) 1 1 [M.two] _ (sl_lit W 73 [M.two] 1 _ rfl (by omega) (tcs_len _) rfl) (by omega) (fun h => by cases h)) (fun _ _ h => ⟨h.1, Ev.trans (Ev.alloc (Ev.refl _) _) h.2⟩)
theorem four2_c (W : World) : Calls Try.prog 48 #[.slice (some ⟨W.heap.size, 0, none⟩) 1 1] (W.alloc (.cells #[.int .i64 1, .int .i64 0, .int .i64 1, .int .i64 2, .int .i64 2] 73)) fun e w' => (∃ B d, e = .returned (.agg #[.int .i64 4, .int .i64 2, .int .i64 0, .int .i64 0, .slice B 3 d]) ∧ Sl tcs 5 w' w'.heap.size B 3 d (M.four [M.bad]).ts) ∧ Ev W w' :=
  Calls.mono (four_c (some ⟨W.heap.size, 0, none⟩) 1 1 [M.bad] _ (sl_lit W 73 [M.bad] 1 _ rfl (by omega) (tcs_len _) rfl) (by omega) (fun h => by cases h)) (fun _ _ h => ⟨h.1, Ev.trans (Ev.alloc (Ev.refl _) _) h.2⟩)

theorem awDone (A : Option Addr) (c : Nat) (W : World) (hs : Sl tcs 5 W W.heap.size A 2 c (M.four []).ts) : Calls Try.prog 28 #[.agg #[.int .i64 4, .int .i64 2, .int .i64 0, .int .i64 0, .slice A 2 c]] W fun e w' => (∃ B d, e = .returned (.tuple #[.slice B 2 d, .int .i64 0]) ∧ Sl rgc 2 w' w'.heap.size B 2 d [⟨2, 3⟩, ⟨1, 2⟩]) ∧ Ev W w' := by
  have h := Done_c (M.four []) A 2 c W hs
  simp only [aw1.1, aw1.2, ↓reduceIte] at h
  exact h
theorem awWho (A : Option Addr) (c : Nat) (W : World) (hs : Sl tcs 5 W W.heap.size A 2 c (M.four []).ts) : Calls Try.prog 32 #[.agg #[.int .i64 4, .int .i64 2, .int .i64 0, .int .i64 0, .slice A 2 c], .int .i64 3] W fun e w' => (∃ B d, e = .returned (.tuple #[.slice B 2 d, .int .i64 0]) ∧ Sl ics 1 w' w'.heap.size B 2 d [0, 1]) ∧ Ev W w' := by
  have h := Who_c (M.four []) 3 A 2 c W hs
  simp only [aw2.1, aw2.2, ↓reduceIte] at h
  exact h
theorem awAsk (A : Option Addr) (c : Nat) (W : World) (hs : Sl tcs 5 W W.heap.size A 3 c (M.four [M.two]).ts) : Calls Try.prog 36 #[.agg #[.int .i64 4, .int .i64 2, .int .i64 0, .int .i64 0, .slice A 3 c], .int .i64 0] W fun e w' => (∃ B d, e = .returned (.tuple #[.slice B 2 d, .int .i64 0]) ∧ Sl ics 1 w' w'.heap.size B 2 d [2, 3]) ∧ Ev W w' := by
  have h := Ask_c (M.four [M.two]) 0 A 3 c W hs
  simp only [aw3.1, aw3.2, ↓reduceIte] at h
  exact h
theorem awNext (A : Option Addr) (c : Nat) (W : World) (hs : Sl tcs 5 W W.heap.size A 2 c (M.four []).ts) : Calls Try.prog 41 #[.agg #[.int .i64 4, .int .i64 2, .int .i64 0, .int .i64 0, .slice A 2 c], .int .i64 0] W fun e w' => e = .returned (.tuple #[.int .i64 0, .int .i64 3, .int .i64 0]) ∧ Ev W w' := by
  have h := Next_c (M.four []) 0 A 2 c W hs
  simp only [aw4.1, aw4.2, ↓reduceIte] at h
  exact h
theorem awFirst (A : Option Addr) (c : Nat) (W : World) (hs : Sl tcs 5 W W.heap.size A 3 c (M.four [M.bad]).ts) : Calls Try.prog 43 #[.agg #[.int .i64 4, .int .i64 2, .int .i64 0, .int .i64 0, .slice A 3 c]] W fun e w' => e = .returned (.tuple #[.int .i64 2, .int .i64 0]) ∧ Ev W w' := by
  have h := First_c (M.four [M.bad]) A 3 c W hs
  rw [aw5] at h
  exact h
theorem awLeave (A : Option Addr) (c : Nat) (W : World) (hs : Sl tcs 5 W W.heap.size A 3 c (M.four [M.bad]).ts) : Calls Try.prog 44 #[.agg #[.int .i64 4, .int .i64 2, .int .i64 0, .int .i64 0, .slice A 3 c]] W fun e w' => (∃ B d, e = .returned (.tuple #[.slice B 1 d, .int .i64 0]) ∧ Sl ics 1 w' w'.heap.size B 1 d [0]) ∧ Ev W w' := by
  have h := Leave_c (M.four [M.bad]) A 3 c W hs
  simp only [aw6.1, aw6.2, ↓reduceIte] at h
  exact h

theorem same2_c (x y : Int) (B : Option Addr) (d : Nat) (W0 W : World) (hs : Sl ics 1 W0 W0.heap.size B 2 d [x, y]) (hE : Ev W0 W) :
    Calls Try.prog 34 #[.slice B 2 d, .slice (some ⟨W.heap.size, 0, none⟩) 2 2] (W.alloc (.cells #[.int .i64 x, .int .i64 y] 3)) fun e w' => e = .returned (.bool true) ∧ Ev W w' := by
  refine Calls.mono (same_c B _ 2 d 2 2 [x, y] [x, y] _ (hs.ev (hE.alloc _)) (sl_lit W 3 [x, y] 2 _ rfl (by omega) (fun _ _ => rfl) rfl)) ?_
  rintro e w' ⟨rfl, h⟩
  exact ⟨by simp, Ev.trans (Ev.alloc (Ev.refl _) _) h⟩
theorem same1_c (x : Int) (B : Option Addr) (d : Nat) (W0 W : World) (hs : Sl ics 1 W0 W0.heap.size B 1 d [x]) (hE : Ev W0 W) :
    Calls Try.prog 34 #[.slice B 1 d, .slice (some ⟨W.heap.size, 0, none⟩) 1 1] (W.alloc (.cells #[.int .i64 x] 3)) fun e w' => e = .returned (.bool true) ∧ Ev W w' := by
  refine Calls.mono (same_c B _ 1 d 1 1 [x] [x] _ (hs.ev (hE.alloc _)) (sl_lit W 3 [x] 1 _ rfl (by omega) (fun _ _ => rfl) rfl)) ?_
  rintro e w' ⟨rfl, h⟩
  exact ⟨by simp, Ev.trans (Ev.alloc (Ev.refl _) _) h⟩

set_option maxRecDepth 100000 in
set_option maxHeartbeats 4000000 in
theorem awake_c (w : World) : Calls Try.prog 21 #[] w fun e w' => e = .returned (.bool true) ∧ Ev w w' := by
  go_enter Try.func21, Try.ntmps21
  go_upto_region 7 with (first | (go_at_call 48; ((with_reducible refine (four0_c _).mono ?_); rintro e w1 ⟨⟨B, d, rfl, hs⟩, hb⟩; have HS := hid hs; clear hs)) | (go_at_call 28; ((with_reducible refine (awDone _ _ _ HS.out).mono ?_); rintro e w2 ⟨⟨B1, d1, rfl, hs1⟩, hb1⟩; have HD := hid hs1; have hE2 := hid (hb.trans hb1); clear HS hs1 hb hb1)) | (go_at_call 32; ((with_reducible refine (awWho _ _ _ HS.out).mono ?_); rintro e w3 ⟨⟨B2, d2, rfl, hs1⟩, hb1⟩; have HW := hid hs1; have hE3 := hid (hb.trans hb1); clear HS hs1 hb hb1)) | (go_at_call 41; ((with_reducible refine (awNext _ _ _ HS.out).mono ?_); rintro e w4 ⟨rfl, hb1⟩; have hE4 := hid (hb.trans hb1); clear HS hb hb1)) | (go_at_call 50; ((with_reducible refine (two_c _).mono ?_); rintro e w5 ⟨rfl, hbt⟩)) | (go_at_call 51; ((with_reducible refine (bad_c _).mono ?_); rintro e w5 ⟨rfl, hbt⟩)) | (go_at_call 48; ((with_reducible refine (four1_c _).mono ?_); rintro e w1 ⟨⟨B, d, rfl, hs⟩, hb0⟩; have hb := hbt.trans hb0; have HS := hid hs; clear hs hbt hb0)) | (go_at_call 48; ((with_reducible refine (four2_c _).mono ?_); rintro e w1 ⟨⟨B, d, rfl, hs⟩, hb0⟩; have hb := hbt.trans hb0; have HS := hid hs; clear hs hbt hb0)) | (go_at_call 36; ((with_reducible refine (awAsk _ _ _ HS.out).mono ?_); rintro e w6 ⟨⟨B3, d3, rfl, hs1⟩, hb1⟩; have HA := hid hs1; have hE6 := hid (hb.trans hb1); clear HS hs1 hb hb1)) | (go_at_call 43; ((with_reducible refine (awFirst _ _ _ HS.out).mono ?_); rintro e w7 ⟨rfl, hb1⟩; have hE7 := hid (hb.trans hb1); clear HS hb hb1)) | (go_at_call 44; ((with_reducible refine (awLeave _ _ _ HS.out).mono ?_); rintro e w8 ⟨⟨B4, d4, rfl, hs1⟩, hb1⟩; have HL := hid hs1; have hE8 := hid (hb.trans hb1); clear HS hs1 hb hb1)))
  have hEw := (((((hE2.out.trans hE3.out).trans hE6.out).trans hE4.out).trans hE7.out).trans hE8.out)
  have h3 : Ev w3 w8 := ((hE6.out.trans hE4.out).trans hE7.out).trans hE8.out
  have h6 : Ev w6 w8 := (hE4.out.trans hE7.out).trans hE8.out
  have hD8 := HD.out.ev (hE3.out.trans h3)
  obtain ⟨b, off, rfl, hbl, hcc⟩ := hD8.cells (by omega)
  have c0 := hcc 0 _ rfl 0 _ rfl
  have c1 := hcc 0 _ rfl 1 _ rfl
  have c2 := hcc 1 _ rfl 0 _ rfl
  have c3 := hcc 1 _ rfl 1 _ rfl
  simp only [Nat.zero_mul, Nat.one_mul, Nat.add_zero] at c0 c1 c2 c3
  have c3' : w8.cell? ⟨b, off + 3, none⟩ = some (.int .i64 2) := c3
  have HSE : Hid (∀ w', Ev w8 w' → Ev w8 w' ∧ (∀ o, w'.cell? ⟨b, o, none⟩ = w8.cell? ⟨b, o, none⟩)) := hid (fun w' h => ⟨h, fun o => h.cells.1 _ o hbl⟩)
  have HH3 := hid h3
  have HH6 := hid h6
  have HEw := hid hEw
  clear hD8 hcc h3 h6 hEw hE2 hE3 hE6 hE4 hE7 hE8
  simp only [List.append]
  go_region_held3 (fun w' => Ev w8 w' ∧ (∀ o, w'.cell? ⟨b, o, none⟩ = w8.cell? ⟨b, o, none⟩)) (exact HSE.out _ (by repeat (first | with_reducible exact Ev.refl w8 | (with_reducible assumption) | with_reducible refine Ev.drew ?_ | with_reducible refine Ev.alloc ?_ _))) (first | (go_at_call 49; ((with_reducible refine (between_c 2 3 _).mono ?_); rintro e w9 ⟨rfl, hb9⟩; have hc9 : Ev w8 w9 := (by first | exact hb9 | exact Ev.trans (Ev.drew (Ev.refl _)) hb9))) | (go_at_call 49; ((with_reducible refine (between_c 1 2 _).mono ?_); rintro e w10 ⟨rfl, hb10⟩; have hc10 : Ev w8 w10 := hc9.trans hb10)) | (go_at_call 34; ((with_reducible refine (same2_c 0 1 B2 d2 w3 _ HW.out (HH3.out.trans hc10)).mono ?_); rintro e w11 ⟨rfl, hb11⟩; have hc11 : Ev w8 w11 := hc10.trans hb11)) | (go_at_call 34; ((with_reducible refine (same2_c 2 3 B3 d3 w6 _ HA.out (HH6.out.trans hc11)).mono ?_); rintro e w12 ⟨rfl, hb12⟩; have hc12 : Ev w8 w12 := hc11.trans hb12)) | (go_at_call 34; ((with_reducible refine (same1_c 0 B4 d4 w8 _ HL.out hc12).mono ?_); rintro e w13 ⟨rfl, hb13⟩; have hc13 : Ev w8 w13 := hc12.trans hb13)))
  go_wp2
  go_ret
  exact ⟨rfl, HEw.out.trans hc13⟩

end Go.Proofs.Ytcecmphdmpeibaa

namespace Go.Proofs.Ytcecmphdmpeibaa
open Go.ChangeShapes Go.WideShapes Go.ChangeAt Go.RowKit

theorem ownNone : ownKnob Try.prog.godebug = none := by kernel_rfl

/-- Each of these types has a row of the table, and can be read. -/
def rowed (P : Program) (ts : List TypeId) : Bool := ts.all fun t => P.readableRec t && decide (t < P.types.size)

section
variable {H : Type} {enc : TypeId × Value → H} {P : Program}

/-- Arguments read later as they did, where nothing old was turned. -/
theorem args_later (hl : laidOutB P = true) {W W' : World} (hb : Below W.heap.size W W') : ∀ {ts : List TypeId} {vs : List Value} {ds : List (DataW H)} {ps : List MemPlace},
    rowed P ts = true → DataW.TrodAll enc P W 0 (fun _ => true) true ts vs ds ps → (∀ x ∈ ps, x.block < W.heap.size) → DataW.TrodAll enc P W' 0 (fun b => decide (b < W.heap.size)) true ts vs ds ps
  | [], vs, ds, ps, _, h, _ => by
    obtain ⟨rfl, rfl, rfl⟩ := trodAll_nil h
    exact trodAll_mk0
  | t :: ts, vs, ds, ps, hr, h, hlt => by
    obtain ⟨v, vs', d, ds', p, q, rfl, rfl, rfl, hd, hrest⟩ := trodAll_cons h
    simp only [rowed, List.all_cons, Bool.and_eq_true, decide_eq_true_eq] at hr
    exact trodAll_cons_mk (Below.trod hl hr.1.1 hr.1.2 hd hb fun x hx => hlt x (by simp [hx])) (args_later hl hb (by simpa [rowed] using hr.2) hrest fun x hx => hlt x (by simp [hx]))

/-- A law's last step: it returned true, and made new blocks alone. -/
theorem law_post {f : Func} {s : ChangeSpec} {apart fresh : Bool} {W W' : World} {args : Array Value} {ds gs : List (DataW H)} {before : List MemPlace} (hl : laidOutB P = true) (hrow : rowed P f.params.toList = true) (hv : s.vars = [])
    (hW : DataW.Whole enc P f.params.toList s.vars apart W args.toList ds gs before) (hfn : s.fn H (ds ++ gs) = { results := [.lit (.bool true)], args := ds }) (hb : Below W.heap.size W W') {tb : TypeId} (hr : f.resultTypes = #[tb]) (ht : P.underlying tb = some .bool) :
    s.post enc P f apart fresh false false W args (.bool true) W' := by
  have hlt : ∀ p ∈ before, p.block < W.heap.size := fun p hp => hW.lt p hp
  obtain ⟨p, q, hA, hV, hpq, _, _⟩ := id hW
  rw [hv] at hV
  obtain ⟨rfl, rfl⟩ := trodVars_none hV
  rw [List.append_nil] at hpq
  subst hpq
  refine ⟨ds, [], _, [], _, [], hW, ?_, ?_, ?_, World.keptBut_mono (fun x hx => ⟨hx, .inr (.inl hx)⟩) (hb.frame (· ∈ before)), fun h => by cases h⟩
  · rw [hfn, hr]
    exact trodAll_cons_mk (shut_bool ht _) trodAll_mk0
  · rw [hfn]
    exact args_later hl hb hrow hA hlt
  · rw [hfn, hv]
    exact rfl
end

end Go.Proofs.Ytcecmphdmpeibaa
