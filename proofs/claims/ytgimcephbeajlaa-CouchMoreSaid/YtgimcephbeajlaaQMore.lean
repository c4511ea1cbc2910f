import Derived.Test.YtgimcephbeajlaaC38
import Derived.Test.YtgimcephbeajlaaC27
import Derived.Test.YtgimcephbeajlaaC23
import Derived.Test.YtgimcephbeajlaaC24
import Derived.Test.YtgimcephbeajlaaC32
import Derived.Test.YtgimcephbeajlaaC34
import Derived.Test.YtgimcephbeajlaaC35
import Derived.Test.YtgimcephbeajlaaC36
import Derived.Test.YtgimcephbeajlaaC29
import Derived.Deep.DeepCutAuto
set_option linter.unusedSimpArgs false
set_option linter.unusedVariables false
namespace Go.Proofs.Ytgimcephbeajlaa
open Go.RowKit Go.Shelf

theorem append_any0 {α : Type} {enc : α → List Value} {P : Program} {w : World} {ops : Array Oper} {rest : List Oper} {o : Oper} {a : Act} {Q : Exit → Act → World → Prop} (hgd : o.guard = none) (s x : Operand) (t : TypeId)
  (ho : o.op = .call { callee := .builtin .append, args := #[s, x], argTypes := #[t, t] })
  (base : Nat) (e : TypeId) (i : TypeInfo) (z : Value) (size bytes : Nat) (ht : P.underlying t = some (.slice e)) (hi : P.info? e = some i) (hz : i.zero = some z)
  (hsize : i.size = size) (hby : i.bytes = bytes) (hzs : z.cells.size = size) (hsz : 0 < size)
  (v : Value) (n : Nat) (xs : List Value) (hs : a.eval s = v) (hown : w.ownsRow base e size v n xs)
  (A : Option Addr) (m c : Nat) (ys : List α) (B : Nat) (hx : a.eval x = .slice A m c) (hsl : Sl0 enc size w B A m ys) (henc : ∀ y ∈ ys, (enc y).length = size) (h1 : ∀ u ∈ ys.flatMap enc, u.oneCell' = true)
  (h63 : n + m ≤ maxLen) (hbytes : (n + m) * bytes ≤ 140737488355328) (hbase : base ≤ w.heap.size)
  (h : ∀ v' w', w'.ownsRow base e size v' (n + m) (xs ++ ys.flatMap enc) → w.grownBy w' v.ownBlock → wpList P ops Q rest (a.put o.dst v') w') : wpList P ops Q (o :: rest) a w := by
 cases A with
 | none =>
  have hm : m = 0 := by
   rcases Nat.eq_zero_or_pos m with h | h
   ·
    exact h
   ·
    obtain ⟨b, off, hA, _⟩ := hsl.cells h; cases hA
  subst hm
  obtain rfl : ys = [] := List.eq_nil_of_length_eq_zero hsl.len
  refine wpList_append_none hgd s x t ho base e i size ht hi v n _ hs hown c hx (h v w ?_ ⟨rfl, rfl, rfl, Nat.le_refl _, fun _ _ _ => rfl⟩)
  simpa using hown
 | some ad =>
  exact wpList_append_own w hgd s x t ho base e i z size bytes ht hi hz hsize hby hzs hsz v n xs hs hown ad m c (ys.flatMap enc) hx (by rw [flat_len enc size ys henc, hsl.len]) (sl0_news hsz hsl henc) h1 h63 hbytes hbase fun v' w' h2 h3 _ => h v' w' h2 h3
theorem rdc_one (ys : List M.Rd) : ∀ u ∈ ys.flatMap rdc, u.oneCell' = true := by
 intro u hu
 obtain ⟨y, _, hy⟩ := List.mem_flatMap.1 hu
 simp [rdc] at hy
 rcases hy with rfl | rfl | rfl <;> rfl
theorem cells3_ {W : World} {b : Nat} {t : TypeId} {v0 v1 v2 : Value} (h : W.heap[b]? = some (.cells #[v0, v1, v2] t (0, 0))) : W.cell? ⟨b, 0, none⟩ = some v0 ∧ W.cell? ⟨b, 1, none⟩ = some v1 ∧ W.cell? ⟨b, 2, none⟩ = some v2 :=
 ⟨cell_in h 0, cell_in h 1, cell_in h 2⟩
set_option maxRecDepth 100000 in
set_option maxHeartbeats 4000000 in
theorem couchMore_no1 (f : M.Cf) (l : M.Rd) (Aw At Ar : Option Addr) (nw cw nt ct nr cr : Nat) (hl0 : -9223372036854775808 ≤ f.last) (b : Nat) (hb : b < 65536) (hncl : nr ≤ cr) (hnl44 : nr ≤ 5864062014800) (w : World) (HW : Hid (Sl0 rdc 3 w w.heap.size Ar nr f.rds)) (hs : M.small nw nt nr → CS w w.heap.size f Aw At Ar nw cw nt ct nr cr) (hr : M.rdy f nw nt nr = false) :
  Calls Try.prog 13 #[.agg #[.int .i64 f.last, .int .i64 f.size, .int .i64 f.cool, .int .i64 f.die, .int .i64 f.burn, .int .i64 f.st.lo, .int .i64 f.st.hi, .slice Aw nw cw, .slice At nt ct, .slice Ar nr cr], .agg #[.int .i64 l.hr, .int .i64 l.sn, .int .i64 l.er], .int .u16 (b : Int)] w fun e w' => e = .returned (.bool true) ∧ Ev w w' := by
 have HRD := hid (fun W (hE : Ev w W) => by have := ready_c f Aw At Ar nw cw nt ct nr cr hl0 W (fun h => (hs h).ev hE); rw [hr] at this; exact this)
 clear hr hs
 obtain ⟨i0, hi0, hz0, hz1, hz2⟩ := info_parts infoRR
 have hln := HW.out.len
 go_enter Try.func13, Try.ntmps13
 go_upto_region 1 with fail
 generalize hW0 : World.alloc (World.alloc w _) _ = W0
 have hE0 : Ev w W0 := by rw [← hW0]; exact Ev.alloc (Ev.alloc (Ev.refl _) _) _
 have hal := alloc2 w (.cells #[.int .i64 f.last, .int .i64 f.size, .int .i64 f.cool, .int .i64 f.die, .int .i64 f.burn, .int .i64 f.st.lo, .int .i64 f.st.hi, .slice Aw nw cw, .slice At nt ct, .slice Ar nr cr] 28) (.cells #[.int .i64 l.hr, .int .i64 l.sn, .int .i64 l.er] 96)
 rw [hW0] at hal
 have Q0 := hid hal.1
 have Q1 := hid hal.2.1
 have HZ0 := hid hal.2.2
 clear hal hW0
 obtain ⟨q0, q1, q2, q3, q4, q5, q6, q7, q8, q9⟩ := cells10 Q0.out
 have hlq := heap_lt Q0.out
 go_upto_region 2 with fail
 generalize hW2 : World.alloc W0 _ = W2
 have hE2 : Ev W0 W2 := by rw [← hW2]; exact Ev.alloc (Ev.refl _) _
 have hal := alloc1 W0 (.cells #[.int .i64 f.last, .int .i64 f.size, .int .i64 f.cool, .int .i64 f.die, .int .i64 f.burn, .int .i64 f.st.lo, .int .i64 f.st.hi, .slice Aw nw cw, .slice At nt ct, .slice Ar nr cr] 28)
 rw [hW2] at hal
 have HC2 := hid hal.1
 have HZ2 := hal.2
 have Q0c := hid (hE2.heap Q0.out)
 have Q1c := hid (hE2.heap Q1.out)
 have HEW := hid (hE0.trans hE2)
 have hzz := HZ0.out
 have hpa : w.heap.size + 2 ≤ W0.heap.size := by omega
 have hpb : W0.heap.size + 1 ≤ W2.heap.size := by omega
 clear hW2 hal hE2 Q0 Q1 q0 q1 q2 q3 q4 q5 q6 q7 q8 q9 HZ0 hE0 hlq hzz HZ2
 generalize W0.heap.size = p at *
 obtain ⟨q0, q1, q2, q3, q4, q5, q6, q7, q8, q9⟩ := cells10 Q0c.out
 obtain ⟨y0, y1, y2⟩ := cells3_ Q1c.out
 have hlq : w.heap.size < W2.heap.size := by omega
 have hlq1 : w.heap.size + 1 < W2.heap.size := by omega
 have HSE : Hid (∀ w', Ev W2 w' → (∀ o, w'.cell? ⟨w.heap.size, o, none⟩ = W2.cell? ⟨w.heap.size, o, none⟩) ∧ (∀ o, w'.cell? ⟨w.heap.size + 1, o, none⟩ = W2.cell? ⟨w.heap.size + 1, o, none⟩)) := hid (fun w' h => ⟨fun o => h.cells.1 _ o hlq, fun o => h.cells.1 _ o hlq1⟩)
 go_cut [6] (fun v W1 => v = .bool false ∧ ∃ V : Option Addr, ∃ cx : Nat, Ev w W1 ∧ W1.heap[w.heap.size]? = some (.cells #[.int .i64 f.last, .int .i64 f.size, .int .i64 f.cool, .int .i64 f.die, .int .i64 f.burn, .int .i64 f.st.lo, .int .i64 f.st.hi, .slice Aw nw cw, .slice At nt ct, .slice Ar nr cr] 28 (0, 0)) ∧ W1.heap[p]? = some (.cells #[.int .i64 f.last, .int .i64 f.size, .int .i64 f.cool, .int .i64 f.die, .int .i64 f.burn, .int .i64 f.st.lo, .int .i64 f.st.hi, .slice Aw nw cw, .slice At nt ct, .slice V (nr + 1) cx] 28 (0, 0)) ∧ (nr ≤ 7 → Sl rdc 3 W1 W1.heap.size V (nr + 1) cx (f.rds ++ [l])))
 case first =>
  refine wp_region_held_drew (S := fun w' => (∀ o, w'.cell? ⟨w.heap.size, o, none⟩ = W2.cell? ⟨w.heap.size, o, none⟩) ∧ (∀ o, w'.cell? ⟨w.heap.size + 1, o, none⟩ = W2.cell? ⟨w.heap.size + 1, o, none⟩)) (by kernel_rfl) ⟨fun o => rfl, fun o => rfl⟩ (fun hHeld => ?_)
  refine wpAnyH_take (i := 1) (v := ?_) rfl (by kernel_rfl) (by kernel_rfl) (by kernel_rfl) (fun _ _ _ h => h) (Or.inl ⟨by rfl, ?hy⟩) (by assumption) ?_
  case hy => (intro w hSw; (try dsimp only at hSw); go_simp; with_reducible rfl)
  (try simp only [Act.put, sA, sB, sC])
  refine wpAnyH_take (i := 2) (v := ?_) rfl (by kernel_rfl) (by kernel_rfl) (by kernel_rfl) (fun _ _ _ h => h) (Or.inl ⟨by rfl, ?hy⟩) (by assumption) ?_
  case hy => (intro w hSw; (try dsimp only at hSw); go_simp; with_reducible rfl)
  (try simp only [Act.put, sA, sB, sC])
  refine wpAnyH_take (i := 4) (v := ?_) rfl (by kernel_rfl) (by kernel_rfl) (by kernel_rfl) (fun _ _ _ h => h) (Or.inl ⟨by rfl, ?hy⟩) (by assumption) ?_
  case hy => (intro w hSw; (try dsimp only at hSw); go_simp; with_reducible rfl)
  (try simp only [Act.put, sA, sB, sC])
  refine wpAnyH_ready (rs := [0, 5]) (by kernel_rfl) (by simp) ?_
  refine AllReadyH.cons rfl (fun K hK => ?_) (AllReadyH.cons rfl (fun K hK => ?_) AllReadyH.nil)
  ·
   go_simp
   refine hK.out _ _ (HSE.out _ (Ev.alloc (Ev.drew (Ev.refl W2)) _)) (fun hHeld => ?_)
   clear hK K
   (try simp only [Act.put, sA, sB, sC])
   refine wpAnyH_ready (rs := [3, 5]) (by kernel_rfl) (by simp) ?_
   refine AllReadyH.cons rfl (fun K hK => ?_) (AllReadyH.cons rfl (fun K hK => ?_) AllReadyH.nil)
   ·
    have hEA := hid (Ev.alloc (Ev.drew (Ev.refl W2)) (.cells #[] 96))
    refine step_append_any (enc := rdc) rfl (.tmp 24) (.tmp 26) 26 rfl W2.heap.size 96 i0 _ 3 24 Try.underlying26 hi0 hz0 hz1 hz2 rfl (by decide) _ 0 [] rfl ((World.ownsRow_lit W2 #[] 0 (Nat.le_refl _) (by decide) rfl).ev (by repeat (first | exact Ev.refl _ | refine Ev.drew ?_ | refine Ev.alloc ?_ _))) Ar nr cr f.rds _ rfl (HW.out.ev (HEW.out.trans (by repeat (first | exact Ev.refl _ | refine Ev.drew ?_ | refine Ev.alloc ?_ _)))) (rdc_len _) (rdc_one _) (by unfold maxLen; omega) (by omega) (by first | (simp; done) | (simp; omega)) ?_
    intro v' w3 hown' hgrow
    have hown3 : w3.ownsRow W2.heap.size 96 3 v' nr (f.rds.flatMap rdc) := (by simpa using hown')
    have HE3 := hid (Ev.grown (by repeat (first | exact Ev.refl _ | refine Ev.drew ?_ | refine Ev.alloc ?_ _)) hgrow (fun k e => by have e2 : some W2.heap.size = some k := e; simp at e2; omega) : Ev W2 w3)
    refine hK.out _ _ (HSE.out _ HE3.out) (fun hHeld => ?_)
    clear hK K
    (try simp only [Act.put, sA, sB, sC])
    refine wpAnyH_ready (rs := [5]) (by kernel_rfl) (by simp) ?_
    refine AllReadyH.cons rfl (fun K hK => ?_) AllReadyH.nil
    go_simp
    refine hK.out _ _ (HSE.out _ (Ev.alloc HE3.out _)) (fun hHeld => ?_)
    clear hK K
    (try simp only [Act.put, sA, sB, sC])
    refine wpAnyH_ready (rs := [6]) (by kernel_rfl) (by simp) ?_
    refine AllReadyH.cons rfl (fun K hK => ?_) AllReadyH.nil
    refine step_append_own rfl (.tmp 27) (.tmp 29) 26 rfl W2.heap.size 96 i0 _ 3 24 Try.underlying26 hi0 hz0 hz1 hz2 rfl (by decide) v' nr (f.rds.flatMap rdc) rfl (hown3.alloc _) ⟨w3.heap.size, 0, none⟩ 1 1 [.int .i64 l.hr, .int .i64 l.sn, .int .i64 l.er] rfl rfl (news_in (alloc1 w3 _).1) (by simp [Value.oneCell']) (by unfold maxLen; omega) (by omega) (Nat.le_trans HE3.out.size (by first | exact Nat.le_refl _ | (simp; done) | (simp; omega))) ?_
    intro v2 w4 hown2 hgrow2 _
    have hown4 : w4.ownsRow W2.heap.size 96 3 v2 (nr + 1) ((f.rds ++ [l]).flatMap rdc) := by rw [List.flatMap_append]; exact hown2
    obtain ⟨V, cx, rfl⟩ := own_form hown4
    have HE4 := hid (Ev.grown (Ev.alloc HE3.out _) hgrow2 (fun k e => (hown3.lt k e).1))
    have HX4 := hid (HE4.out.heap HC2.out)
    have HQ4 := hid (HE4.out.heap Q0c.out)
    clear hown2 hgrow2
    obtain ⟨y0, y1, y2, y3, y4, y5, y6, y7, y8, y9⟩ := cells10 HX4.out
    obtain ⟨f0, f1, f2, f3, f4, f5, f6, f7, f8, f9⟩ := frz10 HX4.out
    refine hK.out _ _ (HSE.out _ HE4.out) (fun hHeld => ?_)
    clear hK K
    (try simp only [Act.put, sA, sB, sC])
    refine wpAnyH_take (i := 7) (v := ?_) rfl (by kernel_rfl) (by kernel_rfl) (by kernel_rfl) (fun _ _ _ h => h) (Or.inl ⟨by rfl, ?hy⟩) (by assumption) ?_
    case hy => (intro w hSw; (try dsimp only at hSw); go_simp; with_reducible rfl)
    (try simp only [Act.put, sA, sB, sC])
    refine wpAnyH_ready (rs := [8]) (by kernel_rfl) (by simp) ?_
    refine AllReadyH.cons rfl (fun K hK => ?_) AllReadyH.nil
    go_simp
    refine hK.out _ _ (⟨fun o => (cell_set_ne (show w.heap.size ≠ p by omega)).trans ((HSE.out _ HE4.out).1 o), fun o => (cell_set_ne (show w.heap.size + 1 ≠ p by omega)).trans ((HSE.out _ HE4.out).2 o)⟩) (fun hHeld => ?_)
    clear hK K
    (try simp only [Act.put, sA, sB, sC])
    refine wpAnyH_done (by kernel_rfl) ?_ _
    go_wp2_with fail
    go_meet
    have hown5 := ownsRow_setCell_below hown4 (a := ⟨p, 9, none⟩) (show p < W2.heap.size by omega) (.slice V (nr + 1) cx)
    exact ⟨rfl, V, cx, Ev.setCell (HEW.out.trans HE4.out) (by simp; omega) _, set_heap HQ4.out (by omega), by rw [set_heap_same HX4.out]; rfl, fun h => sl_own (by decide) (rdc_len _) (by omega) hown5⟩
   ·
    go_simp
    refine hK.out _ _ (HSE.out _ (Ev.alloc (Ev.alloc (Ev.drew (Ev.refl W2)) _) _)) (fun hHeld => ?_)
    clear hK K
    (try simp only [Act.put, sA, sB, sC])
    refine wpAnyH_ready (rs := [3]) (by kernel_rfl) (by simp) ?_
    refine AllReadyH.cons rfl (fun K hK => ?_) AllReadyH.nil
    have hEA := hid (Ev.alloc (Ev.alloc (Ev.drew (Ev.refl W2)) (.cells #[] 96)) (.cells #[.int .i64 l.hr, .int .i64 l.sn, .int .i64 l.er] 96))
    refine step_append_any (enc := rdc) rfl (.tmp 24) (.tmp 26) 26 rfl W2.heap.size 96 i0 _ 3 24 Try.underlying26 hi0 hz0 hz1 hz2 rfl (by decide) _ 0 [] rfl ((World.ownsRow_lit W2 #[] 0 (Nat.le_refl _) (by decide) rfl).ev (by repeat (first | exact Ev.refl _ | refine Ev.drew ?_ | refine Ev.alloc ?_ _))) Ar nr cr f.rds _ rfl (HW.out.ev (HEW.out.trans (by repeat (first | exact Ev.refl _ | refine Ev.drew ?_ | refine Ev.alloc ?_ _)))) (rdc_len _) (rdc_one _) (by unfold maxLen; omega) (by omega) (by first | (simp; done) | (simp; omega)) ?_
    intro v' w3 hown' hgrow
    have hown3 : w3.ownsRow W2.heap.size 96 3 v' nr (f.rds.flatMap rdc) := (by simpa using hown')
    have HE3 := hid (Ev.grown (by repeat (first | exact Ev.refl _ | refine Ev.drew ?_ | refine Ev.alloc ?_ _)) hgrow (fun k e => by have e2 : some W2.heap.size = some k := e; simp at e2; omega) : Ev W2 w3)
    have HM := hid ((hgrow.block (W2.heap.size + 1) (by simp) (fun e => by have e2 : some W2.heap.size = some (W2.heap.size + 1) := e.symm; simp at e2)).trans (alloc2 W2 (.cells #[] 96) (.cells #[.int .i64 l.hr, .int .i64 l.sn, .int .i64 l.er] 96)).2.1 : w3.heap[W2.heap.size + 1]? = some (.cells #[.int .i64 l.hr, .int .i64 l.sn, .int .i64 l.er] 96 (0, 0)))
    refine hK.out _ _ (HSE.out _ HE3.out) (fun hHeld => ?_)
    clear hK K
    (try simp only [Act.put, sA, sB, sC])
    refine wpAnyH_ready (rs := [6]) (by kernel_rfl) (by simp) ?_
    refine AllReadyH.cons rfl (fun K hK => ?_) AllReadyH.nil
    refine step_append_own rfl (.tmp 27) (.tmp 29) 26 rfl W2.heap.size 96 i0 _ 3 24 Try.underlying26 hi0 hz0 hz1 hz2 rfl (by decide) v' nr (f.rds.flatMap rdc) rfl hown3 ⟨W2.heap.size + 1, 0, none⟩ 1 1 [.int .i64 l.hr, .int .i64 l.sn, .int .i64 l.er] rfl rfl (news_in HM.out) (by simp [Value.oneCell']) (by unfold maxLen; omega) (by omega) (Nat.le_trans HE3.out.size (by first | exact Nat.le_refl _ | (simp; done) | (simp; omega))) ?_
    intro v2 w4 hown2 hgrow2 _
    have hown4 : w4.ownsRow W2.heap.size 96 3 v2 (nr + 1) ((f.rds ++ [l]).flatMap rdc) := by rw [List.flatMap_append]; exact hown2
    obtain ⟨V, cx, rfl⟩ := own_form hown4
    have HE4 := hid (Ev.grown (HE3.out) hgrow2 (fun k e => (hown3.lt k e).1))
    have HX4 := hid (HE4.out.heap HC2.out)
    have HQ4 := hid (HE4.out.heap Q0c.out)
    clear hown2 hgrow2
    obtain ⟨y0, y1, y2, y3, y4, y5, y6, y7, y8, y9⟩ := cells10 HX4.out
    obtain ⟨f0, f1, f2, f3, f4, f5, f6, f7, f8, f9⟩ := frz10 HX4.out
    refine hK.out _ _ (HSE.out _ HE4.out) (fun hHeld => ?_)
    clear hK K
    (try simp only [Act.put, sA, sB, sC])
    refine wpAnyH_take (i := 7) (v := ?_) rfl (by kernel_rfl) (by kernel_rfl) (by kernel_rfl) (fun _ _ _ h => h) (Or.inl ⟨by rfl, ?hy⟩) (by assumption) ?_
    case hy => (intro w hSw; (try dsimp only at hSw); go_simp; with_reducible rfl)
    (try simp only [Act.put, sA, sB, sC])
    refine wpAnyH_ready (rs := [8]) (by kernel_rfl) (by simp) ?_
    refine AllReadyH.cons rfl (fun K hK => ?_) AllReadyH.nil
    go_simp
    refine hK.out _ _ (⟨fun o => (cell_set_ne (show w.heap.size ≠ p by omega)).trans ((HSE.out _ HE4.out).1 o), fun o => (cell_set_ne (show w.heap.size + 1 ≠ p by omega)).trans ((HSE.out _ HE4.out).2 o)⟩) (fun hHeld => ?_)
    clear hK K
    (try simp only [Act.put, sA, sB, sC])
    refine wpAnyH_done (by kernel_rfl) ?_ _
    go_wp2_with fail
    go_meet
    have hown5 := ownsRow_setCell_below hown4 (a := ⟨p, 9, none⟩) (show p < W2.heap.size by omega) (.slice V (nr + 1) cx)
    exact ⟨rfl, V, cx, Ev.setCell (HEW.out.trans HE4.out) (by simp; omega) _, set_heap HQ4.out (by omega), by rw [set_heap_same HX4.out]; rfl, fun h => sl_own (by decide) (rdc_len _) (by omega) hown5⟩
  ·
   go_simp
   refine hK.out _ _ (HSE.out _ (Ev.alloc (Ev.drew (Ev.refl W2)) _)) (fun hHeld => ?_)
   clear hK K
   (try simp only [Act.put, sA, sB, sC])
   refine wpAnyH_ready (rs := [0]) (by kernel_rfl) (by simp) ?_
   refine AllReadyH.cons rfl (fun K hK => ?_) AllReadyH.nil
   go_simp
   refine hK.out _ _ (HSE.out _ (Ev.alloc (Ev.alloc (Ev.drew (Ev.refl W2)) _) _)) (fun hHeld => ?_)
   clear hK K
   (try simp only [Act.put, sA, sB, sC])
   refine wpAnyH_ready (rs := [3]) (by kernel_rfl) (by simp) ?_
   refine AllReadyH.cons rfl (fun K hK => ?_) AllReadyH.nil
   have hEA := hid (Ev.alloc (Ev.alloc (Ev.drew (Ev.refl W2)) (.cells #[.int .i64 l.hr, .int .i64 l.sn, .int .i64 l.er] 96)) (.cells #[] 96))
   have hOW : ((W2.alloc (.cells #[.int .i64 l.hr, .int .i64 l.sn, .int .i64 l.er] 96)).alloc (.cells #[] 96)).ownsRow W2.heap.size 96 3 (.slice (some ⟨W2.heap.size + 1, 0, none⟩) 0 0) 0 (([] : List M.Rd).flatMap rdc) := by
    have h := World.ownsRow_lit (base := W2.heap.size) (e := 96) (size := 3) (W2.alloc (.cells #[.int .i64 l.hr, .int .i64 l.sn, .int .i64 l.er] 96)) #[] 0 (by simp) (by decide) rfl
    rw [World.size_alloc] at h
    exact h
   refine step_append_any (enc := rdc) rfl (.tmp 24) (.tmp 26) 26 rfl W2.heap.size 96 i0 _ 3 24 Try.underlying26 hi0 hz0 hz1 hz2 rfl (by decide) _ 0 [] rfl (hOW.ev (by repeat (first | exact Ev.refl _ | refine Ev.drew ?_ | refine Ev.alloc ?_ _))) Ar nr cr f.rds _ rfl (HW.out.ev (HEW.out.trans (by repeat (first | exact Ev.refl _ | refine Ev.drew ?_ | refine Ev.alloc ?_ _)))) (rdc_len _) (rdc_one _) (by unfold maxLen; omega) (by omega) (by first | (simp; done) | (simp; omega)) ?_
   intro v' w3 hown' hgrow
   have hown3 : w3.ownsRow W2.heap.size 96 3 v' nr (f.rds.flatMap rdc) := (by simpa using hown')
   have HE3 := hid (Ev.grown (by repeat (first | exact Ev.refl _ | refine Ev.drew ?_ | refine Ev.alloc ?_ _)) hgrow (fun k e => by have e2 : some (W2.heap.size + 1) = some k := e; simp at e2; omega) : Ev W2 w3)
   have HM := hid ((hgrow.block W2.heap.size (by simp; omega) (fun e => by have e2 : some (W2.heap.size + 1) = some W2.heap.size := e.symm; simp at e2)).trans (alloc2 W2 (.cells #[.int .i64 l.hr, .int .i64 l.sn, .int .i64 l.er] 96) (.cells #[] 96)).1 : w3.heap[W2.heap.size]? = some (.cells #[.int .i64 l.hr, .int .i64 l.sn, .int .i64 l.er] 96 (0, 0)))
   refine hK.out _ _ (HSE.out _ HE3.out) (fun hHeld => ?_)
   clear hK K
   (try simp only [Act.put, sA, sB, sC])
   refine wpAnyH_ready (rs := [6]) (by kernel_rfl) (by simp) ?_
   refine AllReadyH.cons rfl (fun K hK => ?_) AllReadyH.nil
   refine step_append_own rfl (.tmp 27) (.tmp 29) 26 rfl W2.heap.size 96 i0 _ 3 24 Try.underlying26 hi0 hz0 hz1 hz2 rfl (by decide) v' nr (f.rds.flatMap rdc) rfl hown3 ⟨W2.heap.size, 0, none⟩ 1 1 [.int .i64 l.hr, .int .i64 l.sn, .int .i64 l.er] rfl rfl (news_in HM.out) (by simp [Value.oneCell']) (by unfold maxLen; omega) (by omega) (Nat.le_trans HE3.out.size (by first | exact Nat.le_refl _ | (simp; done) | (simp; omega))) ?_
   intro v2 w4 hown2 hgrow2 _
   have hown4 : w4.ownsRow W2.heap.size 96 3 v2 (nr + 1) ((f.rds ++ [l]).flatMap rdc) := by rw [List.flatMap_append]; exact hown2
   obtain ⟨V, cx, rfl⟩ := own_form hown4
   have HE4 := hid (Ev.grown (HE3.out) hgrow2 (fun k e => (hown3.lt k e).1))
   have HX4 := hid (HE4.out.heap HC2.out)
   have HQ4 := hid (HE4.out.heap Q0c.out)
   clear hown2 hgrow2
   obtain ⟨y0, y1, y2, y3, y4, y5, y6, y7, y8, y9⟩ := cells10 HX4.out
   obtain ⟨f0, f1, f2, f3, f4, f5, f6, f7, f8, f9⟩ := frz10 HX4.out
   refine hK.out _ _ (HSE.out _ HE4.out) (fun hHeld => ?_)
   clear hK K
   (try simp only [Act.put, sA, sB, sC])
   refine wpAnyH_take (i := 7) (v := ?_) rfl (by kernel_rfl) (by kernel_rfl) (by kernel_rfl) (fun _ _ _ h => h) (Or.inl ⟨by rfl, ?hy⟩) (by assumption) ?_
   case hy => (intro w hSw; (try dsimp only at hSw); go_simp; with_reducible rfl)
   (try simp only [Act.put, sA, sB, sC])
   refine wpAnyH_ready (rs := [8]) (by kernel_rfl) (by simp) ?_
   refine AllReadyH.cons rfl (fun K hK => ?_) AllReadyH.nil
   go_simp
   refine hK.out _ _ (⟨fun o => (cell_set_ne (show w.heap.size ≠ p by omega)).trans ((HSE.out _ HE4.out).1 o), fun o => (cell_set_ne (show w.heap.size + 1 ≠ p by omega)).trans ((HSE.out _ HE4.out).2 o)⟩) (fun hHeld => ?_)
   clear hK K
   (try simp only [Act.put, sA, sB, sC])
   refine wpAnyH_done (by kernel_rfl) ?_ _
   go_wp2_with fail
   go_meet
   have hown5 := ownsRow_setCell_below hown4 (a := ⟨p, 9, none⟩) (show p < W2.heap.size by omega) (.slice V (nr + 1) cx)
   exact ⟨rfl, V, cx, Ev.setCell (HEW.out.trans HE4.out) (by simp; omega) _, set_heap HQ4.out (by omega), by rw [set_heap_same HX4.out]; rfl, fun h => sl_own (by decide) (rdc_len _) (by omega) hown5⟩
 case rest =>
  obtain ⟨rfl, V, cx, hE5, hQ, hX, hS⟩ := hcut
  have HQ5 := hid hQ
  have HX5 := hid hX
  clear hQ hX hS y0 y1 y2 q0 q1 q2 q3 q4 q5 q6 q7 q8 q9
  obtain ⟨y0, y1, y2, y3, y4, y5, y6, y7, y8, y9⟩ := cells10 HX5.out
  obtain ⟨q0, q1, q2, q3, q4, q5, q6, q7, q8, q9⟩ := cells10 HQ5.out
  go_wp2_with (first | (go_at_call 50; with_reducible refine (HRD.out _ hE5).mono ?_; rintro e w6 ⟨rfl, hb6⟩) | (go_at_call 19; with_reducible refine (awake_c _).mono ?_; rintro e w99 ⟨rfl, hb99⟩) | (with_reducible refine ⟨trivial, ?_⟩))
  go_ret
  exact ⟨rfl, (hE5.trans hb6).trans hb99⟩

theorem readyL_c (f : M.Cf) (ls : List M.Rd) (Aw At Ar : Option Addr) (nw cw nt ct nr cr : Nat) (hl0 : -9223372036854775808 ≤ f.last) (w : World) (hs : M.small nw nt nr → CS w w.heap.size (M.withL f ls) Aw At Ar nw cw nt ct nr cr) :
  Calls Try.prog 50 #[.agg #[.int .i64 f.last, .int .i64 f.size, .int .i64 f.cool, .int .i64 f.die, .int .i64 f.burn, .int .i64 f.st.lo, .int .i64 f.st.hi, .slice Aw nw cw, .slice At nt ct, .slice Ar nr cr]] w fun e w' => e = .returned (.bool (M.rdy (M.withL f ls) nw nt nr)) ∧ Ev w w' := ready_c (M.withL f ls) Aw At Ar nw cw nt ct nr cr hl0 w hs
theorem LeaveM_ok (f : M.Cf) (ls : List M.Rd) (Aw At Ar : Option Addr) (nw cw nt ct nr cr : Nat) (hl0 : -9223372036854775808 ≤ f.last) (w : World) (hs : CS w w.heap.size (M.withL f ls) Aw At Ar nw cw nt ct nr cr) (h0 : M.check (M.withL f ls) = 0) :
  Calls Try.prog 41 #[.agg #[.int .i64 f.last, .int .i64 f.size, .int .i64 f.cool, .int .i64 f.die, .int .i64 f.burn, .int .i64 f.st.lo, .int .i64 f.st.hi, .slice Aw nw cw, .slice At nt ct, .slice Ar nr cr]] w fun e w' => (∃ B d, e = .returned (.tuple #[.slice B (M.shortest (M.spares (M.withL f ls)) nr).length d, .int .i64 0])) ∧ Ev w w' := (Leave_ok (M.withL f ls) Aw At Ar nw cw nt ct nr cr hl0 w hs h0).mono fun e w' h => ⟨by obtain ⟨⟨B, d, h1, _⟩, _⟩ := h; exact ⟨B, d, h1⟩, h.2⟩
theorem BoundsM_ok (f : M.Cf) (ls : List M.Rd) (Aw At Ar : Option Addr) (nw cw nt ct nr cr : Nat) (P : Option Addr) (pn pc : Nat) (plan : List Int) (hl0 : -9223372036854775808 ≤ f.last) (w : World) (hs : CS w w.heap.size (M.withL f ls) Aw At Ar nw cw nt ct nr cr) (hp : Sl ics 1 w w.heap.size P pn pc plan) (h0 : M.begin (M.withL f ls) (M.isTurns (M.withL f ls) plan) = 0) :
  Calls Try.prog 31 #[.agg #[.int .i64 f.last, .int .i64 f.size, .int .i64 f.cool, .int .i64 f.die, .int .i64 f.burn, .int .i64 f.st.lo, .int .i64 f.st.hi, .slice Aw nw cw, .slice At nt ct, .slice Ar nr cr], .slice P pn pc] w fun e w' => (∃ B d, e = .returned (.tuple #[.slice B nw d, .int .i64 0]) ∧ Sl rgc 2 w' w'.heap.size B nw d (M.bounds (M.withL f ls) (M.truths (M.withL f ls)) plan)) ∧ Ev w w' := Bounds_ok (M.withL f ls) Aw At Ar nw cw nt ct nr cr P pn pc plan hl0 w hs hp h0
theorem KeepsM_ok (f : M.Cf) (ls : List M.Rd) (Aw At Ar : Option Addr) (nw cw nt ct nr cr : Nat) (P : Option Addr) (pn pc : Nat) (plan : List Int) (hl0 : -9223372036854775808 ≤ f.last) (w : World) (hs : CS w w.heap.size (M.withL f ls) Aw At Ar nw cw nt ct nr cr) (hp : Sl ics 1 w w.heap.size P pn pc plan) (h0 : M.begin (M.withL f ls) (M.isTurns (M.withL f ls) plan) = 0) :
  Calls Try.prog 32 #[.agg #[.int .i64 f.last, .int .i64 f.size, .int .i64 f.cool, .int .i64 f.die, .int .i64 f.burn, .int .i64 f.st.lo, .int .i64 f.st.hi, .slice Aw nw cw, .slice At nt ct, .slice Ar nr cr], .slice P pn pc] w fun e w' => e = .returned (.tuple #[.int .i64 (M.keepsOf (M.withL f ls) (M.truths (M.withL f ls)) plan), .int .i64 0]) ∧ Ev w w' := Keeps_ok (M.withL f ls) Aw At Ar nw cw nt ct nr cr P pn pc plan hl0 w hs hp h0
theorem neededM_c (f : M.Cf) (ls : List M.Rd) (Aw At Ar : Option Addr) (nw cw nt ct nr cr : Nat) (hl0 : -9223372036854775808 ≤ f.last) (hnt : nt ≤ 1000) (hnr : nr ≤ 1000) (h0 : M.begin (M.withL f ls) true = 0) (w : World) (hs : CS w w.heap.size (M.withL f ls) Aw At Ar nw cw nt ct nr cr) :
  Calls Try.prog 58 #[.agg #[.int .i64 f.last, .int .i64 f.size, .int .i64 f.cool, .int .i64 f.die, .int .i64 f.burn, .int .i64 f.st.lo, .int .i64 f.st.hi, .slice Aw nw cw, .slice At nt ct, .slice Ar nr cr]] w fun e w' => e = .returned (.int .i64 (M.need (M.withL f ls) (M.truths (M.withL f ls)))) ∧ Ev w w' := needed_c (M.withL f ls) Aw At Ar nw cw nt ct nr cr hl0 hnt hnr h0 w hs

set_option maxRecDepth 100000 in
set_option maxHeartbeats 4000000 in
theorem couchMore_no2 (f : M.Cf) (l : M.Rd) (Aw At Ar : Option Addr) (nw cw nt ct nr cr : Nat) (hl0 : -9223372036854775808 ≤ f.last) (b : Nat) (hb : b < 65536) (hncl : nr ≤ cr) (hnl44 : nr ≤ 5864062014800) (w : World) (HW : Hid (Sl0 rdc 3 w w.heap.size Ar nr f.rds)) (hs : M.small nw nt nr → CS w w.heap.size f Aw At Ar nw cw nt ct nr cr) (hr : M.rdy f nw nt nr = true) (hsm : M.small nw nt nr) (h0 : M.check f = 0) (hrx : M.rdy (M.withL f (f.rds ++ [l])) nw nt (nr + 1) = false) :
  Calls Try.prog 13 #[.agg #[.int .i64 f.last, .int .i64 f.size, .int .i64 f.cool, .int .i64 f.die, .int .i64 f.burn, .int .i64 f.st.lo, .int .i64 f.st.hi, .slice Aw nw cw, .slice At nt ct, .slice Ar nr cr], .agg #[.int .i64 l.hr, .int .i64 l.sn, .int .i64 l.er], .int .u16 (b : Int)] w fun e w' => e = .returned (.bool true) ∧ Ev w w' := by
 have HRD := hid (fun W (hE : Ev w W) => by have := ready_c f Aw At Ar nw cw nt ct nr cr hl0 W (fun h => (hs h).ev hE); rw [hr] at this; exact this)
 have hl5 : nr ≤ 5 := by rw [← (hs hsm).r.len]; exact (M.check0 h0).2.1
 have HCS := hid (hs hsm)
 clear hr hs
 obtain ⟨i0, hi0, hz0, hz1, hz2⟩ := info_parts infoRR
 have hln := HW.out.len
 go_enter Try.func13, Try.ntmps13
 go_upto_region 1 with fail
 generalize hW0 : World.alloc (World.alloc w _) _ = W0
 have hE0 : Ev w W0 := by rw [← hW0]; exact Ev.alloc (Ev.alloc (Ev.refl _) _) _
 have hal := alloc2 w (.cells #[.int .i64 f.last, .int .i64 f.size, .int .i64 f.cool, .int .i64 f.die, .int .i64 f.burn, .int .i64 f.st.lo, .int .i64 f.st.hi, .slice Aw nw cw, .slice At nt ct, .slice Ar nr cr] 28) (.cells #[.int .i64 l.hr, .int .i64 l.sn, .int .i64 l.er] 96)
 rw [hW0] at hal
 have Q0 := hid hal.1
 have Q1 := hid hal.2.1
 have HZ0 := hid hal.2.2
 clear hal hW0
 obtain ⟨q0, q1, q2, q3, q4, q5, q6, q7, q8, q9⟩ := cells10 Q0.out
 have hlq := heap_lt Q0.out
 go_upto_region 2 with fail
 generalize hW2 : World.alloc W0 _ = W2
 have hE2 : Ev W0 W2 := by rw [← hW2]; exact Ev.alloc (Ev.refl _) _
 have hal := alloc1 W0 (.cells #[.int .i64 f.last, .int .i64 f.size, .int .i64 f.cool, .int .i64 f.die, .int .i64 f.burn, .int .i64 f.st.lo, .int .i64 f.st.hi, .slice Aw nw cw, .slice At nt ct, .slice Ar nr cr] 28)
 rw [hW2] at hal
 have HC2 := hid hal.1
 have HZ2 := hal.2
 have Q0c := hid (hE2.heap Q0.out)
 have Q1c := hid (hE2.heap Q1.out)
 have HEW := hid (hE0.trans hE2)
 have hzz := HZ0.out
 have hpa : w.heap.size + 2 ≤ W0.heap.size := by omega
 have hpb : W0.heap.size + 1 ≤ W2.heap.size := by omega
 clear hW2 hal hE2 Q0 Q1 q0 q1 q2 q3 q4 q5 q6 q7 q8 q9 HZ0 hE0 hlq hzz HZ2
 generalize W0.heap.size = p at *
 obtain ⟨q0, q1, q2, q3, q4, q5, q6, q7, q8, q9⟩ := cells10 Q0c.out
 obtain ⟨y0, y1, y2⟩ := cells3_ Q1c.out
 have hlq : w.heap.size < W2.heap.size := by omega
 have hlq1 : w.heap.size + 1 < W2.heap.size := by omega
 have HSE : Hid (∀ w', Ev W2 w' → (∀ o, w'.cell? ⟨w.heap.size, o, none⟩ = W2.cell? ⟨w.heap.size, o, none⟩) ∧ (∀ o, w'.cell? ⟨w.heap.size + 1, o, none⟩ = W2.cell? ⟨w.heap.size + 1, o, none⟩)) := hid (fun w' h => ⟨fun o => h.cells.1 _ o hlq, fun o => h.cells.1 _ o hlq1⟩)
 go_cut [6] (fun v W1 => v = .bool false ∧ ∃ V : Option Addr, ∃ cx : Nat, Ev w W1 ∧ W1.heap[w.heap.size]? = some (.cells #[.int .i64 f.last, .int .i64 f.size, .int .i64 f.cool, .int .i64 f.die, .int .i64 f.burn, .int .i64 f.st.lo, .int .i64 f.st.hi, .slice Aw nw cw, .slice At nt ct, .slice Ar nr cr] 28 (0, 0)) ∧ W1.heap[p]? = some (.cells #[.int .i64 f.last, .int .i64 f.size, .int .i64 f.cool, .int .i64 f.die, .int .i64 f.burn, .int .i64 f.st.lo, .int .i64 f.st.hi, .slice Aw nw cw, .slice At nt ct, .slice V (nr + 1) cx] 28 (0, 0)) ∧ (nr ≤ 7 → Sl rdc 3 W1 W1.heap.size V (nr + 1) cx (f.rds ++ [l])))
 case first =>
  refine wp_region_held_drew (S := fun w' => (∀ o, w'.cell? ⟨w.heap.size, o, none⟩ = W2.cell? ⟨w.heap.size, o, none⟩) ∧ (∀ o, w'.cell? ⟨w.heap.size + 1, o, none⟩ = W2.cell? ⟨w.heap.size + 1, o, none⟩)) (by kernel_rfl) ⟨fun o => rfl, fun o => rfl⟩ (fun hHeld => ?_)
  refine wpAnyH_take (i := 1) (v := ?_) rfl (by kernel_rfl) (by kernel_rfl) (by kernel_rfl) (fun _ _ _ h => h) (Or.inl ⟨by rfl, ?hy⟩) (by assumption) ?_
  case hy => (intro w hSw; (try dsimp only at hSw); go_simp; with_reducible rfl)
  (try simp only [Act.put, sA, sB, sC])
  refine wpAnyH_take (i := 2) (v := ?_) rfl (by kernel_rfl) (by kernel_rfl) (by kernel_rfl) (fun _ _ _ h => h) (Or.inl ⟨by rfl, ?hy⟩) (by assumption) ?_
  case hy => (intro w hSw; (try dsimp only at hSw); go_simp; with_reducible rfl)
  (try simp only [Act.put, sA, sB, sC])
  refine wpAnyH_take (i := 4) (v := ?_) rfl (by kernel_rfl) (by kernel_rfl) (by kernel_rfl) (fun _ _ _ h => h) (Or.inl ⟨by rfl, ?hy⟩) (by assumption) ?_
  case hy => (intro w hSw; (try dsimp only at hSw); go_simp; with_reducible rfl)
  (try simp only [Act.put, sA, sB, sC])
  refine wpAnyH_ready (rs := [0, 5]) (by kernel_rfl) (by simp) ?_
  refine AllReadyH.cons rfl (fun K hK => ?_) (AllReadyH.cons rfl (fun K hK => ?_) AllReadyH.nil)
  ·
   go_simp
   refine hK.out _ _ (HSE.out _ (Ev.alloc (Ev.drew (Ev.refl W2)) _)) (fun hHeld => ?_)
   clear hK K
   (try simp only [Act.put, sA, sB, sC])
   refine wpAnyH_ready (rs := [3, 5]) (by kernel_rfl) (by simp) ?_
   refine AllReadyH.cons rfl (fun K hK => ?_) (AllReadyH.cons rfl (fun K hK => ?_) AllReadyH.nil)
   ·
    have hEA := hid (Ev.alloc (Ev.drew (Ev.refl W2)) (.cells #[] 96))
    refine step_append_any (enc := rdc) rfl (.tmp 24) (.tmp 26) 26 rfl W2.heap.size 96 i0 _ 3 24 Try.underlying26 hi0 hz0 hz1 hz2 rfl (by decide) _ 0 [] rfl ((World.ownsRow_lit W2 #[] 0 (Nat.le_refl _) (by decide) rfl).ev (by repeat (first | exact Ev.refl _ | refine Ev.drew ?_ | refine Ev.alloc ?_ _))) Ar nr cr f.rds _ rfl (HW.out.ev (HEW.out.trans (by repeat (first | exact Ev.refl _ | refine Ev.drew ?_ | refine Ev.alloc ?_ _)))) (rdc_len _) (rdc_one _) (by unfold maxLen; omega) (by omega) (by first | (simp; done) | (simp; omega)) ?_
    intro v' w3 hown' hgrow
    have hown3 : w3.ownsRow W2.heap.size 96 3 v' nr (f.rds.flatMap rdc) := (by simpa using hown')
    have HE3 := hid (Ev.grown (by repeat (first | exact Ev.refl _ | refine Ev.drew ?_ | refine Ev.alloc ?_ _)) hgrow (fun k e => by have e2 : some W2.heap.size = some k := e; simp at e2; omega) : Ev W2 w3)
    refine hK.out _ _ (HSE.out _ HE3.out) (fun hHeld => ?_)
    clear hK K
    (try simp only [Act.put, sA, sB, sC])
    refine wpAnyH_ready (rs := [5]) (by kernel_rfl) (by simp) ?_
    refine AllReadyH.cons rfl (fun K hK => ?_) AllReadyH.nil
    go_simp
    refine hK.out _ _ (HSE.out _ (Ev.alloc HE3.out _)) (fun hHeld => ?_)
    clear hK K
    (try simp only [Act.put, sA, sB, sC])
    refine wpAnyH_ready (rs := [6]) (by kernel_rfl) (by simp) ?_
    refine AllReadyH.cons rfl (fun K hK => ?_) AllReadyH.nil
    refine step_append_own rfl (.tmp 27) (.tmp 29) 26 rfl W2.heap.size 96 i0 _ 3 24 Try.underlying26 hi0 hz0 hz1 hz2 rfl (by decide) v' nr (f.rds.flatMap rdc) rfl (hown3.alloc _) ⟨w3.heap.size, 0, none⟩ 1 1 [.int .i64 l.hr, .int .i64 l.sn, .int .i64 l.er] rfl rfl (news_in (alloc1 w3 _).1) (by simp [Value.oneCell']) (by unfold maxLen; omega) (by omega) (Nat.le_trans HE3.out.size (by first | exact Nat.le_refl _ | (simp; done) | (simp; omega))) ?_
    intro v2 w4 hown2 hgrow2 _
    have hown4 : w4.ownsRow W2.heap.size 96 3 v2 (nr + 1) ((f.rds ++ [l]).flatMap rdc) := by rw [List.flatMap_append]; exact hown2
    obtain ⟨V, cx, rfl⟩ := own_form hown4
    have HE4 := hid (Ev.grown (Ev.alloc HE3.out _) hgrow2 (fun k e => (hown3.lt k e).1))
    have HX4 := hid (HE4.out.heap HC2.out)
    have HQ4 := hid (HE4.out.heap Q0c.out)
    clear hown2 hgrow2
    obtain ⟨y0, y1, y2, y3, y4, y5, y6, y7, y8, y9⟩ := cells10 HX4.out
    obtain ⟨f0, f1, f2, f3, f4, f5, f6, f7, f8, f9⟩ := frz10 HX4.out
    refine hK.out _ _ (HSE.out _ HE4.out) (fun hHeld => ?_)
    clear hK K
    (try simp only [Act.put, sA, sB, sC])
    refine wpAnyH_take (i := 7) (v := ?_) rfl (by kernel_rfl) (by kernel_rfl) (by kernel_rfl) (fun _ _ _ h => h) (Or.inl ⟨by rfl, ?hy⟩) (by assumption) ?_
    case hy => (intro w hSw; (try dsimp only at hSw); go_simp; with_reducible rfl)
    (try simp only [Act.put, sA, sB, sC])
    refine wpAnyH_ready (rs := [8]) (by kernel_rfl) (by simp) ?_
    refine AllReadyH.cons rfl (fun K hK => ?_) AllReadyH.nil
    go_simp
    refine hK.out _ _ (⟨fun o => (cell_set_ne (show w.heap.size ≠ p by omega)).trans ((HSE.out _ HE4.out).1 o), fun o => (cell_set_ne (show w.heap.size + 1 ≠ p by omega)).trans ((HSE.out _ HE4.out).2 o)⟩) (fun hHeld => ?_)
    clear hK K
    (try simp only [Act.put, sA, sB, sC])
    refine wpAnyH_done (by kernel_rfl) ?_ _
    go_wp2_with fail
    go_meet
    have hown5 := ownsRow_setCell_below hown4 (a := ⟨p, 9, none⟩) (show p < W2.heap.size by omega) (.slice V (nr + 1) cx)
    exact ⟨rfl, V, cx, Ev.setCell (HEW.out.trans HE4.out) (by simp; omega) _, set_heap HQ4.out (by omega), by rw [set_heap_same HX4.out]; rfl, fun h => sl_own (by decide) (rdc_len _) (by omega) hown5⟩
   ·
    go_simp
    refine hK.out _ _ (HSE.out _ (Ev.alloc (Ev.alloc (Ev.drew (Ev.refl W2)) _) _)) (fun hHeld => ?_)
    clear hK K
    (try simp only [Act.put, sA, sB, sC])
    refine wpAnyH_ready (rs := [3]) (by kernel_rfl) (by simp) ?_
    refine AllReadyH.cons rfl (fun K hK => ?_) AllReadyH.nil
    have hEA := hid (Ev.alloc (Ev.alloc (Ev.drew (Ev.refl W2)) (.cells #[] 96)) (.cells #[.int .i64 l.hr, .int .i64 l.sn, .int .i64 l.er] 96))
    refine step_append_any (enc := rdc) rfl (.tmp 24) (.tmp 26) 26 rfl W2.heap.size 96 i0 _ 3 24 Try.underlying26 hi0 hz0 hz1 hz2 rfl (by decide) _ 0 [] rfl ((World.ownsRow_lit W2 #[] 0 (Nat.le_refl _) (by decide) rfl).ev (by repeat (first | exact Ev.refl _ | refine Ev.drew ?_ | refine Ev.alloc ?_ _))) Ar nr cr f.rds _ rfl (HW.out.ev (HEW.out.trans (by repeat (first | exact Ev.refl _ | refine Ev.drew ?_ | refine Ev.alloc ?_ _)))) (rdc_len _) (rdc_one _) (by unfold maxLen; omega) (by omega) (by first | (simp; done) | (simp; omega)) ?_
    intro v' w3 hown' hgrow
    have hown3 : w3.ownsRow W2.heap.size 96 3 v' nr (f.rds.flatMap rdc) := (by simpa using hown')
    have HE3 := hid (Ev.grown (by repeat (first | exact Ev.refl _ | refine Ev.drew ?_ | refine Ev.alloc ?_ _)) hgrow (fun k e => by have e2 : some W2.heap.size = some k := e; simp at e2; omega) : Ev W2 w3)
    have HM := hid ((hgrow.block (W2.heap.size + 1) (by simp) (fun e => by have e2 : some W2.heap.size = some (W2.heap.size + 1) := e.symm; simp at e2)).trans (alloc2 W2 (.cells #[] 96) (.cells #[.int .i64 l.hr, .int .i64 l.sn, .int .i64 l.er] 96)).2.1 : w3.heap[W2.heap.size + 1]? = some (.cells #[.int .i64 l.hr, .int .i64 l.sn, .int .i64 l.er] 96 (0, 0)))
    refine hK.out _ _ (HSE.out _ HE3.out) (fun hHeld => ?_)
    clear hK K
    (try simp only [Act.put, sA, sB, sC])
    refine wpAnyH_ready (rs := [6]) (by kernel_rfl) (by simp) ?_
    refine AllReadyH.cons rfl (fun K hK => ?_) AllReadyH.nil
    refine step_append_own rfl (.tmp 27) (.tmp 29) 26 rfl W2.heap.size 96 i0 _ 3 24 Try.underlying26 hi0 hz0 hz1 hz2 rfl (by decide) v' nr (f.rds.flatMap rdc) rfl hown3 ⟨W2.heap.size + 1, 0, none⟩ 1 1 [.int .i64 l.hr, .int .i64 l.sn, .int .i64 l.er] rfl rfl (news_in HM.out) (by simp [Value.oneCell']) (by unfold maxLen; omega) (by omega) (Nat.le_trans HE3.out.size (by first | exact Nat.le_refl _ | (simp; done) | (simp; omega))) ?_
    intro v2 w4 hown2 hgrow2 _
    have hown4 : w4.ownsRow W2.heap.size 96 3 v2 (nr + 1) ((f.rds ++ [l]).flatMap rdc) := by rw [List.flatMap_append]; exact hown2
    obtain ⟨V, cx, rfl⟩ := own_form hown4
    have HE4 := hid (Ev.grown (HE3.out) hgrow2 (fun k e => (hown3.lt k e).1))
    have HX4 := hid (HE4.out.heap HC2.out)
    have HQ4 := hid (HE4.out.heap Q0c.out)
    clear hown2 hgrow2
    obtain ⟨y0, y1, y2, y3, y4, y5, y6, y7, y8, y9⟩ := cells10 HX4.out
    obtain ⟨f0, f1, f2, f3, f4, f5, f6, f7, f8, f9⟩ := frz10 HX4.out
    refine hK.out _ _ (HSE.out _ HE4.out) (fun hHeld => ?_)
    clear hK K
    (try simp only [Act.put, sA, sB, sC])
    refine wpAnyH_take (i := 7) (v := ?_) rfl (by kernel_rfl) (by kernel_rfl) (by kernel_rfl) (fun _ _ _ h => h) (Or.inl ⟨by rfl, ?hy⟩) (by assumption) ?_
    case hy => (intro w hSw; (try dsimp only at hSw); go_simp; with_reducible rfl)
    (try simp only [Act.put, sA, sB, sC])
    refine wpAnyH_ready (rs := [8]) (by kernel_rfl) (by simp) ?_
    refine AllReadyH.cons rfl (fun K hK => ?_) AllReadyH.nil
    go_simp
    refine hK.out _ _ (⟨fun o => (cell_set_ne (show w.heap.size ≠ p by omega)).trans ((HSE.out _ HE4.out).1 o), fun o => (cell_set_ne (show w.heap.size + 1 ≠ p by omega)).trans ((HSE.out _ HE4.out).2 o)⟩) (fun hHeld => ?_)
    clear hK K
    (try simp only [Act.put, sA, sB, sC])
    refine wpAnyH_done (by kernel_rfl) ?_ _
    go_wp2_with fail
    go_meet
    have hown5 := ownsRow_setCell_below hown4 (a := ⟨p, 9, none⟩) (show p < W2.heap.size by omega) (.slice V (nr + 1) cx)
    exact ⟨rfl, V, cx, Ev.setCell (HEW.out.trans HE4.out) (by simp; omega) _, set_heap HQ4.out (by omega), by rw [set_heap_same HX4.out]; rfl, fun h => sl_own (by decide) (rdc_len _) (by omega) hown5⟩
  ·
   go_simp
   refine hK.out _ _ (HSE.out _ (Ev.alloc (Ev.drew (Ev.refl W2)) _)) (fun hHeld => ?_)
   clear hK K
   (try simp only [Act.put, sA, sB, sC])
   refine wpAnyH_ready (rs := [0]) (by kernel_rfl) (by simp) ?_
   refine AllReadyH.cons rfl (fun K hK => ?_) AllReadyH.nil
   go_simp
   refine hK.out _ _ (HSE.out _ (Ev.alloc (Ev.alloc (Ev.drew (Ev.refl W2)) _) _)) (fun hHeld => ?_)
   clear hK K
   (try simp only [Act.put, sA, sB, sC])
   refine wpAnyH_ready (rs := [3]) (by kernel_rfl) (by simp) ?_
   refine AllReadyH.cons rfl (fun K hK => ?_) AllReadyH.nil
   have hEA := hid (Ev.alloc (Ev.alloc (Ev.drew (Ev.refl W2)) (.cells #[.int .i64 l.hr, .int .i64 l.sn, .int .i64 l.er] 96)) (.cells #[] 96))
   have hOW : ((W2.alloc (.cells #[.int .i64 l.hr, .int .i64 l.sn, .int .i64 l.er] 96)).alloc (.cells #[] 96)).ownsRow W2.heap.size 96 3 (.slice (some ⟨W2.heap.size + 1, 0, none⟩) 0 0) 0 (([] : List M.Rd).flatMap rdc) := by
    have h := World.ownsRow_lit (base := W2.heap.size) (e := 96) (size := 3) (W2.alloc (.cells #[.int .i64 l.hr, .int .i64 l.sn, .int .i64 l.er] 96)) #[] 0 (by simp) (by decide) rfl
    rw [World.size_alloc] at h
    exact h
   refine step_append_any (enc := rdc) rfl (.tmp 24) (.tmp 26) 26 rfl W2.heap.size 96 i0 _ 3 24 Try.underlying26 hi0 hz0 hz1 hz2 rfl (by decide) _ 0 [] rfl (hOW.ev (by repeat (first | exact Ev.refl _ | refine Ev.drew ?_ | refine Ev.alloc ?_ _))) Ar nr cr f.rds _ rfl (HW.out.ev (HEW.out.trans (by repeat (first | exact Ev.refl _ | refine Ev.drew ?_ | refine Ev.alloc ?_ _)))) (rdc_len _) (rdc_one _) (by unfold maxLen; omega) (by omega) (by first | (simp; done) | (simp; omega)) ?_
   intro v' w3 hown' hgrow
   have hown3 : w3.ownsRow W2.heap.size 96 3 v' nr (f.rds.flatMap rdc) := (by simpa using hown')
   have HE3 := hid (Ev.grown (by repeat (first | exact Ev.refl _ | refine Ev.drew ?_ | refine Ev.alloc ?_ _)) hgrow (fun k e => by have e2 : some (W2.heap.size + 1) = some k := e; simp at e2; omega) : Ev W2 w3)
   have HM := hid ((hgrow.block W2.heap.size (by simp; omega) (fun e => by have e2 : some (W2.heap.size + 1) = some W2.heap.size := e.symm; simp at e2)).trans (alloc2 W2 (.cells #[.int .i64 l.hr, .int .i64 l.sn, .int .i64 l.er] 96) (.cells #[] 96)).1 : w3.heap[W2.heap.size]? = some (.cells #[.int .i64 l.hr, .int .i64 l.sn, .int .i64 l.er] 96 (0, 0)))
   refine hK.out _ _ (HSE.out _ HE3.out) (fun hHeld => ?_)
   clear hK K
   (try simp only [Act.put, sA, sB, sC])
   refine wpAnyH_ready (rs := [6]) (by kernel_rfl) (by simp) ?_
   refine AllReadyH.cons rfl (fun K hK => ?_) AllReadyH.nil
   refine step_append_own rfl (.tmp 27) (.tmp 29) 26 rfl W2.heap.size 96 i0 _ 3 24 Try.underlying26 hi0 hz0 hz1 hz2 rfl (by decide) v' nr (f.rds.flatMap rdc) rfl hown3 ⟨W2.heap.size, 0, none⟩ 1 1 [.int .i64 l.hr, .int .i64 l.sn, .int .i64 l.er] rfl rfl (news_in HM.out) (by simp [Value.oneCell']) (by unfold maxLen; omega) (by omega) (Nat.le_trans HE3.out.size (by first | exact Nat.le_refl _ | (simp; done) | (simp; omega))) ?_
   intro v2 w4 hown2 hgrow2 _
   have hown4 : w4.ownsRow W2.heap.size 96 3 v2 (nr + 1) ((f.rds ++ [l]).flatMap rdc) := by rw [List.flatMap_append]; exact hown2
   obtain ⟨V, cx, rfl⟩ := own_form hown4
   have HE4 := hid (Ev.grown (HE3.out) hgrow2 (fun k e => (hown3.lt k e).1))
   have HX4 := hid (HE4.out.heap HC2.out)
   have HQ4 := hid (HE4.out.heap Q0c.out)
   clear hown2 hgrow2
   obtain ⟨y0, y1, y2, y3, y4, y5, y6, y7, y8, y9⟩ := cells10 HX4.out
   obtain ⟨f0, f1, f2, f3, f4, f5, f6, f7, f8, f9⟩ := frz10 HX4.out
   refine hK.out _ _ (HSE.out _ HE4.out) (fun hHeld => ?_)
   clear hK K
   (try simp only [Act.put, sA, sB, sC])
   refine wpAnyH_take (i := 7) (v := ?_) rfl (by kernel_rfl) (by kernel_rfl) (by kernel_rfl) (fun _ _ _ h => h) (Or.inl ⟨by rfl, ?hy⟩) (by assumption) ?_
   case hy => (intro w hSw; (try dsimp only at hSw); go_simp; with_reducible rfl)
   (try simp only [Act.put, sA, sB, sC])
   refine wpAnyH_ready (rs := [8]) (by kernel_rfl) (by simp) ?_
   refine AllReadyH.cons rfl (fun K hK => ?_) AllReadyH.nil
   go_simp
   refine hK.out _ _ (⟨fun o => (cell_set_ne (show w.heap.size ≠ p by omega)).trans ((HSE.out _ HE4.out).1 o), fun o => (cell_set_ne (show w.heap.size + 1 ≠ p by omega)).trans ((HSE.out _ HE4.out).2 o)⟩) (fun hHeld => ?_)
   clear hK K
   (try simp only [Act.put, sA, sB, sC])
   refine wpAnyH_done (by kernel_rfl) ?_ _
   go_wp2_with fail
   go_meet
   have hown5 := ownsRow_setCell_below hown4 (a := ⟨p, 9, none⟩) (show p < W2.heap.size by omega) (.slice V (nr + 1) cx)
   exact ⟨rfl, V, cx, Ev.setCell (HEW.out.trans HE4.out) (by simp; omega) _, set_heap HQ4.out (by omega), by rw [set_heap_same HX4.out]; rfl, fun h => sl_own (by decide) (rdc_len _) (by omega) hown5⟩
 case rest =>
  obtain ⟨rfl, V, cx, hE5, hQ, hX, hS⟩ := hcut
  obtain ⟨W5, hW5⟩ : ∃ x, x = wc := ⟨_, rfl⟩
  subst hW5
  have HQ5 := hid hQ
  have HX5 := hid hX
  have HSX := hid (show CS W5 W5.heap.size (M.withL f (f.rds ++ [l])) Aw At V nw cw nt ct (nr + 1) cx from ⟨(HCS.out.ev hE5).w_, (HCS.out.ev hE5).t, hS (by omega)⟩)
  have HRY := hid (fun W (hE : Ev W5 W) => by have := readyL_c f (f.rds ++ [l]) Aw At V nw cw nt ct (nr + 1) cx hl0 W (fun _ => HSX.out.ev hE); rw [hrx] at this; exact this)
  clear hQ hX hS y0 y1 y2 q0 q1 q2 q3 q4 q5 q6 q7 q8 q9
  obtain ⟨y0, y1, y2, y3, y4, y5, y6, y7, y8, y9⟩ := cells10 HX5.out
  obtain ⟨q0, q1, q2, q3, q4, q5, q6, q7, q8, q9⟩ := cells10 HQ5.out
  go_wp2_with (first | (go_at_call 50; with_reducible refine (HRD.out _ hE5).mono ?_; rintro e w6 ⟨rfl, hb6⟩; clear y0 y1 y2 y3 y4 y5 y6 y7 y8 y9; clear q0 q1 q2 q3 q4 q5 q6 q7 q8 q9; obtain ⟨y0, y1, y2, y3, y4, y5, y6, y7, y8, y9⟩ := cells10 (hb6.heap HX5.out); obtain ⟨q0, q1, q2, q3, q4, q5, q6, q7, q8, q9⟩ := cells10 (hb6.heap HQ5.out)) | (go_at_call 50; with_reducible refine (HRY.out _ hb6).mono ?_; rintro e w7 ⟨rfl, hb7⟩) | (go_at_call 19; with_reducible refine (awake_c _).mono ?_; rintro e w99 ⟨rfl, hb99⟩) | (with_reducible refine ⟨trivial, ?_⟩))
  go_ret
  exact ⟨rfl, ((hE5.trans hb6).trans hb7).trans hb99⟩

theorem narrower_t (X Y : Option Addr) (n c m d : Nat) (xs ys : List M.Rg) (h : M.narrow xs ys = true) (w : World) (hx : Sl rgc 2 w w.heap.size X n c xs) (hy : Sl rgc 2 w w.heap.size Y m d ys) :
  Calls Try.prog 59 #[.slice X n c, .slice Y m d] w fun e w' => e = .returned (.bool true) ∧ Ev w w' := by
 have := narrower_c X Y n c m d xs ys w hx hy
 rw [h] at this
 exact this
theorem LeaveM0_ok (f : M.Cf) (Aw At Ar : Option Addr) (nw cw nt ct nr cr : Nat) (hl0 : -9223372036854775808 ≤ f.last) (w : World) (hs : CS w w.heap.size f Aw At Ar nw cw nt ct nr cr) (h0 : M.check f = 0) :
  Calls Try.prog 41 #[.agg #[.int .i64 f.last, .int .i64 f.size, .int .i64 f.cool, .int .i64 f.die, .int .i64 f.burn, .int .i64 f.st.lo, .int .i64 f.st.hi, .slice Aw nw cw, .slice At nt ct, .slice Ar nr cr]] w fun e w' => (∃ B d, e = .returned (.tuple #[.slice B (M.shortest (M.spares f) nr).length d, .int .i64 0])) ∧ Ev w w' := (Leave_ok f Aw At Ar nw cw nt ct nr cr hl0 w hs h0).mono fun e w' h => ⟨by obtain ⟨⟨B, d, h1, _⟩, _⟩ := h; exact ⟨B, d, h1⟩, h.2⟩
theorem Bounds0_ok (f : M.Cf) (Aw At Ar : Option Addr) (nw cw nt ct nr cr : Nat) (P : Option Addr) (pn pc : Nat) (plan : List Int) (hl0 : -9223372036854775808 ≤ f.last) (w : World) (hs : CS w w.heap.size f Aw At Ar nw cw nt ct nr cr) (hp : Sl ics 1 w w.heap.size P pn pc plan) (h0 : M.begin f (M.isTurns f plan) = 0) :
  Calls Try.prog 31 #[.agg #[.int .i64 f.last, .int .i64 f.size, .int .i64 f.cool, .int .i64 f.die, .int .i64 f.burn, .int .i64 f.st.lo, .int .i64 f.st.hi, .slice Aw nw cw, .slice At nt ct, .slice Ar nr cr], .slice P pn pc] w fun e w' => (∃ B d, e = .returned (.tuple #[.slice B nw d, .int .i64 0]) ∧ Sl rgc 2 w' w'.heap.size B nw d (M.bounds f (M.truths f) plan)) ∧ Ev w w' := Bounds_ok f Aw At Ar nw cw nt ct nr cr P pn pc plan hl0 w hs hp h0
theorem Keeps0_ok (f : M.Cf) (Aw At Ar : Option Addr) (nw cw nt ct nr cr : Nat) (P : Option Addr) (pn pc : Nat) (plan : List Int) (hl0 : -9223372036854775808 ≤ f.last) (w : World) (hs : CS w w.heap.size f Aw At Ar nw cw nt ct nr cr) (hp : Sl ics 1 w w.heap.size P pn pc plan) (h0 : M.begin f (M.isTurns f plan) = 0) :
  Calls Try.prog 32 #[.agg #[.int .i64 f.last, .int .i64 f.size, .int .i64 f.cool, .int .i64 f.die, .int .i64 f.burn, .int .i64 f.st.lo, .int .i64 f.st.hi, .slice Aw nw cw, .slice At nt ct, .slice Ar nr cr], .slice P pn pc] w fun e w' => e = .returned (.tuple #[.int .i64 (M.keepsOf f (M.truths f) plan), .int .i64 0]) ∧ Ev w w' := Keeps_ok f Aw At Ar nw cw nt ct nr cr P pn pc plan hl0 w hs hp h0
theorem M.heats_with (f : M.Cf) (ls : List M.Rd) (t : M.Tr) (ps : List Int) : M.heats (M.withL f ls) t ps = M.heats f t ps := by
 unfold M.heats
 rw [M.hK_with]
theorem M.stays_with (f : M.Cf) (ls : List M.Rd) (t : M.Tr) (plan : List Int) : M.stays (M.withL f ls) t plan = M.stays f t plan := by
 unfold M.stays
 rw [M.heats_with]
 rfl

set_option maxRecDepth 1000000 in
set_option maxHeartbeats 8000000 in
theorem couchMore_yes (f : M.Cf) (l : M.Rd) (Aw At Ar : Option Addr) (nw cw nt ct nr cr : Nat) (hl0 : -9223372036854775808 ≤ f.last) (b : Nat) (hb : b < 65536) (hncl : nr ≤ cr) (hnl44 : nr ≤ 5864062014800) (w : World) (HW : Hid (Sl0 rdc 3 w w.heap.size Ar nr f.rds)) (hs : M.small nw nt nr → CS w w.heap.size f Aw At Ar nw cw nt ct nr cr) (hr : M.rdy f nw nt nr = true) (hsm : M.small nw nt nr) (h0 : M.check f = 0) (hrx : M.rdy (M.withL f (f.rds ++ [l])) nw nt (nr + 1) = true) (h0x : M.check (M.withL f (f.rds ++ [l])) = 0) :
  Calls Try.prog 13 #[.agg #[.int .i64 f.last, .int .i64 f.size, .int .i64 f.cool, .int .i64 f.die, .int .i64 f.burn, .int .i64 f.st.lo, .int .i64 f.st.hi, .slice Aw nw cw, .slice At nt ct, .slice Ar nr cr], .agg #[.int .i64 l.hr, .int .i64 l.sn, .int .i64 l.er], .int .u16 (b : Int)] w fun e w' => e = .returned (.bool true) ∧ Ev w w' := by
 have HRD := hid (fun W (hE : Ev w W) => by have := ready_c f Aw At Ar nw cw nt ct nr cr hl0 W (fun h => (hs h).ev hE); rw [hr] at this; exact this)
 have HCS := hid (hs hsm)
 have hlx : ((M.withL f (f.rds ++ [l]))).rds.length = nr + 1 := by show ((f.rds ++ [l])).length = nr + 1; rw [List.length_append, (hs hsm).r.len]; rfl
 have hl5 : nr + 1 ≤ 5 := by rw [← hlx]; exact (M.check0 h0x).2.1
 obtain ⟨s0, s1, s2⟩ := hsm
 have hlen : f.rds.length = nr := HCS.out.r.len
 obtain ⟨hl9, _, hv, _⟩ := M.check0 h0
 have hlast := (M.valid_parts hv).2.2.2.2.2.1
 have hwl := HCS.out.w_.len
 have hl00 := (M.valid_parts hv).2.2.2.2.1
 have hnl : (nw : Int) = f.last + 1 := by omega
 have hnw10 : nw ≤ 10 := by omega
 have hmore := M.leave_more h0 h0x hlen
 have hnl1 := fun h => M.leave_nil h0x hlx h
 have HM7 := hid (show (M.shortest (M.spares f) nr).length ≤ 7 from by obtain ⟨_, _, _, _, h7, _⟩ := M.leave_spec h0 hlen; exact h7)
 have hsub : ∀ t ∈ M.truths (M.withL f (f.rds ++ [l])), t ∈ M.truths f := fun t ht => by have := M.truths_more (f := f) (a := (f.rds ++ [l])) (b := f.rds) (fun u hu => List.mem_append_left _ hu) t ht; rwa [M.with_same] at this
 have HLF := hid (fun (Bw : Option Addr) (dw : Nat) (Bt : Option Addr) (dt : Nat) (Br : Option Addr) (dr : Nat) W (h : CS W W.heap.size f Bw Bt Br nw dw nt dt nr dr) => LeaveM0_ok f Bw Bt Br nw dw nt dt nr dr hl0 W h h0)
 have HLX := hid (fun (Bw : Option Addr) (dw : Nat) (Bt : Option Addr) (dt : Nat) (Br : Option Addr) (dr : Nat) W (h : CS W W.heap.size (M.withL f (f.rds ++ [l])) Bw Bt Br nw dw nt dt (nr + 1) dr) => LeaveM_ok f (f.rds ++ [l]) Bw Bt Br nw dw nt dt (nr + 1) dr hl0 W h h0x)
 have HHF := hid (fun W (h : CS W W.heap.size f Aw At Ar nw cw nt ct nr cr) => Heap_c f Aw At Ar nw cw nt ct nr cr (by omega) (by omega) (by omega) W h)
 have hpl := M.trn_ok hv b
 have HTU := hid (fun W => turned_c f Aw At Ar nw cw nt ct nr cr hv hl9 b hb W)
 have hpnl := M.trn_len f b
 obtain ⟨plan, hplan⟩ : ∃ p, M.trn f b = p := ⟨_, rfl⟩
 obtain ⟨pn, hpn⟩ : ∃ p, plan.length = p := ⟨_, rfl⟩
 rw [hplan, hpn] at HTU
 rw [hplan] at hpl hpnl
 rw [hpn] at hpnl
 clear hplan
 have HTN0 := hid hpl
 clear hr hs hpl
 obtain ⟨i0, hi0, hz0, hz1, hz2⟩ := info_parts infoRR
 have hln := HW.out.len
 go_enter Try.func13, Try.ntmps13
 go_upto_region 1 with fail
 generalize hW0 : World.alloc (World.alloc w _) _ = W0
 have hE0 : Ev w W0 := by rw [← hW0]; exact Ev.alloc (Ev.alloc (Ev.refl _) _) _
 have hal := alloc2 w (.cells #[.int .i64 f.last, .int .i64 f.size, .int .i64 f.cool, .int .i64 f.die, .int .i64 f.burn, .int .i64 f.st.lo, .int .i64 f.st.hi, .slice Aw nw cw, .slice At nt ct, .slice Ar nr cr] 28) (.cells #[.int .i64 l.hr, .int .i64 l.sn, .int .i64 l.er] 96)
 rw [hW0] at hal
 have Q0 := hid hal.1
 have Q1 := hid hal.2.1
 have HZ0 := hid hal.2.2
 clear hal hW0
 obtain ⟨q0, q1, q2, q3, q4, q5, q6, q7, q8, q9⟩ := cells10 Q0.out
 have hlq := heap_lt Q0.out
 go_upto_region 2 with fail
 generalize hW2 : World.alloc W0 _ = W2
 have hE2 : Ev W0 W2 := by rw [← hW2]; exact Ev.alloc (Ev.refl _) _
 have hal := alloc1 W0 (.cells #[.int .i64 f.last, .int .i64 f.size, .int .i64 f.cool, .int .i64 f.die, .int .i64 f.burn, .int .i64 f.st.lo, .int .i64 f.st.hi, .slice Aw nw cw, .slice At nt ct, .slice Ar nr cr] 28)
 rw [hW2] at hal
 have HC2 := hid hal.1
 have HZ2 := hal.2
 have Q0c := hid (hE2.heap Q0.out)
 have Q1c := hid (hE2.heap Q1.out)
 have HEW := hid (hE0.trans hE2)
 have hzz := HZ0.out
 have hpa : w.heap.size + 2 ≤ W0.heap.size := by omega
 have hpb : W0.heap.size + 1 ≤ W2.heap.size := by omega
 clear hW2 hal hE2 Q0 Q1 q0 q1 q2 q3 q4 q5 q6 q7 q8 q9 HZ0 hE0 hlq hzz HZ2
 generalize W0.heap.size = p at *
 obtain ⟨q0, q1, q2, q3, q4, q5, q6, q7, q8, q9⟩ := cells10 Q0c.out
 obtain ⟨y0, y1, y2⟩ := cells3_ Q1c.out
 have hlq : w.heap.size < W2.heap.size := by omega
 have hlq1 : w.heap.size + 1 < W2.heap.size := by omega
 have HSE : Hid (∀ w', Ev W2 w' → (∀ o, w'.cell? ⟨w.heap.size, o, none⟩ = W2.cell? ⟨w.heap.size, o, none⟩) ∧ (∀ o, w'.cell? ⟨w.heap.size + 1, o, none⟩ = W2.cell? ⟨w.heap.size + 1, o, none⟩)) := hid (fun w' h => ⟨fun o => h.cells.1 _ o hlq, fun o => h.cells.1 _ o hlq1⟩)
 go_cut [6] (fun v W1 => v = .bool false ∧ ∃ V : Option Addr, ∃ cx : Nat, Ev w W1 ∧ W1.heap[w.heap.size]? = some (.cells #[.int .i64 f.last, .int .i64 f.size, .int .i64 f.cool, .int .i64 f.die, .int .i64 f.burn, .int .i64 f.st.lo, .int .i64 f.st.hi, .slice Aw nw cw, .slice At nt ct, .slice Ar nr cr] 28 (0, 0)) ∧ W1.heap[p]? = some (.cells #[.int .i64 f.last, .int .i64 f.size, .int .i64 f.cool, .int .i64 f.die, .int .i64 f.burn, .int .i64 f.st.lo, .int .i64 f.st.hi, .slice Aw nw cw, .slice At nt ct, .slice V (nr + 1) cx] 28 (0, 0)) ∧ (nr ≤ 7 → Sl rdc 3 W1 W1.heap.size V (nr + 1) cx (f.rds ++ [l])))
 case first =>
  refine wp_region_held_drew (S := fun w' => (∀ o, w'.cell? ⟨w.heap.size, o, none⟩ = W2.cell? ⟨w.heap.size, o, none⟩) ∧ (∀ o, w'.cell? ⟨w.heap.size + 1, o, none⟩ = W2.cell? ⟨w.heap.size + 1, o, none⟩)) (by kernel_rfl) ⟨fun o => rfl, fun o => rfl⟩ (fun hHeld => ?_)
  refine wpAnyH_take (i := 1) (v := ?_) rfl (by kernel_rfl) (by kernel_rfl) (by kernel_rfl) (fun _ _ _ h => h) (Or.inl ⟨by rfl, ?hy⟩) (by assumption) ?_
  case hy => (intro w hSw; (try dsimp only at hSw); go_simp; with_reducible rfl)
  (try simp only [Act.put, sA, sB, sC])
  refine wpAnyH_take (i := 2) (v := ?_) rfl (by kernel_rfl) (by kernel_rfl) (by kernel_rfl) (fun _ _ _ h => h) (Or.inl ⟨by rfl, ?hy⟩) (by assumption) ?_
  case hy => (intro w hSw; (try dsimp only at hSw); go_simp; with_reducible rfl)
  (try simp only [Act.put, sA, sB, sC])
  refine wpAnyH_take (i := 4) (v := ?_) rfl (by kernel_rfl) (by kernel_rfl) (by kernel_rfl) (fun _ _ _ h => h) (Or.inl ⟨by rfl, ?hy⟩) (by assumption) ?_
  case hy => (intro w hSw; (try dsimp only at hSw); go_simp; with_reducible rfl)
  (try simp only [Act.put, sA, sB, sC])
  refine wpAnyH_ready (rs := [0, 5]) (by kernel_rfl) (by simp) ?_
  refine AllReadyH.cons rfl (fun K hK => ?_) (AllReadyH.cons rfl (fun K hK => ?_) AllReadyH.nil)
  ·
   go_simp
   refine hK.out _ _ (HSE.out _ (Ev.alloc (Ev.drew (Ev.refl W2)) _)) (fun hHeld => ?_)
   clear hK K
   (try simp only [Act.put, sA, sB, sC])
   refine wpAnyH_ready (rs := [3, 5]) (by kernel_rfl) (by simp) ?_
   refine AllReadyH.cons rfl (fun K hK => ?_) (AllReadyH.cons rfl (fun K hK => ?_) AllReadyH.nil)
   ·
    have hEA := hid (Ev.alloc (Ev.drew (Ev.refl W2)) (.cells #[] 96))
    refine step_append_any (enc := rdc) rfl (.tmp 24) (.tmp 26) 26 rfl W2.heap.size 96 i0 _ 3 24 Try.underlying26 hi0 hz0 hz1 hz2 rfl (by decide) _ 0 [] rfl ((World.ownsRow_lit W2 #[] 0 (Nat.le_refl _) (by decide) rfl).ev (by repeat (first | exact Ev.refl _ | refine Ev.drew ?_ | refine Ev.alloc ?_ _))) Ar nr cr f.rds _ rfl (HW.out.ev (HEW.out.trans (by repeat (first | exact Ev.refl _ | refine Ev.drew ?_ | refine Ev.alloc ?_ _)))) (rdc_len _) (rdc_one _) (by unfold maxLen; omega) (by omega) (by first | (simp; done) | (simp; omega)) ?_
    intro v' w3 hown' hgrow
    have hown3 : w3.ownsRow W2.heap.size 96 3 v' nr (f.rds.flatMap rdc) := (by simpa using hown')
    have HE3 := hid (Ev.grown (by repeat (first | exact Ev.refl _ | refine Ev.drew ?_ | refine Ev.alloc ?_ _)) hgrow (fun k e => by have e2 : some W2.heap.size = some k := e; simp at e2; omega) : Ev W2 w3)
    refine hK.out _ _ (HSE.out _ HE3.out) (fun hHeld => ?_)
    clear hK K
    (try simp only [Act.put, sA, sB, sC])
    refine wpAnyH_ready (rs := [5]) (by kernel_rfl) (by simp) ?_
    refine AllReadyH.cons rfl (fun K hK => ?_) AllReadyH.nil
    go_simp
    refine hK.out _ _ (HSE.out _ (Ev.alloc HE3.out _)) (fun hHeld => ?_)
    clear hK K
    (try simp only [Act.put, sA, sB, sC])
    refine wpAnyH_ready (rs := [6]) (by kernel_rfl) (by simp) ?_
    refine AllReadyH.cons rfl (fun K hK => ?_) AllReadyH.nil
    refine step_append_own rfl (.tmp 27) (.tmp 29) 26 rfl W2.heap.size 96 i0 _ 3 24 Try.underlying26 hi0 hz0 hz1 hz2 rfl (by decide) v' nr (f.rds.flatMap rdc) rfl (hown3.alloc _) ⟨w3.heap.size, 0, none⟩ 1 1 [.int .i64 l.hr, .int .i64 l.sn, .int .i64 l.er] rfl rfl (news_in (alloc1 w3 _).1) (by simp [Value.oneCell']) (by unfold maxLen; omega) (by omega) (Nat.le_trans HE3.out.size (by first | exact Nat.le_refl _ | (simp; done) | (simp; omega))) ?_
    intro v2 w4 hown2 hgrow2 _
    have hown4 : w4.ownsRow W2.heap.size 96 3 v2 (nr + 1) ((f.rds ++ [l]).flatMap rdc) := by rw [List.flatMap_append]; exact hown2
    obtain ⟨V, cx, rfl⟩ := own_form hown4
    have HE4 := hid (Ev.grown (Ev.alloc HE3.out _) hgrow2 (fun k e => (hown3.lt k e).1))
    have HX4 := hid (HE4.out.heap HC2.out)
    have HQ4 := hid (HE4.out.heap Q0c.out)
    clear hown2 hgrow2
    obtain ⟨y0, y1, y2, y3, y4, y5, y6, y7, y8, y9⟩ := cells10 HX4.out
    obtain ⟨f0, f1, f2, f3, f4, f5, f6, f7, f8, f9⟩ := frz10 HX4.out
    refine hK.out _ _ (HSE.out _ HE4.out) (fun hHeld => ?_)
    clear hK K
    (try simp only [Act.put, sA, sB, sC])
    refine wpAnyH_take (i := 7) (v := ?_) rfl (by kernel_rfl) (by kernel_rfl) (by kernel_rfl) (fun _ _ _ h => h) (Or.inl ⟨by rfl, ?hy⟩) (by assumption) ?_
    case hy => (intro w hSw; (try dsimp only at hSw); go_simp; with_reducible rfl)
    (try simp only [Act.put, sA, sB, sC])
    refine wpAnyH_ready (rs := [8]) (by kernel_rfl) (by simp) ?_
    refine AllReadyH.cons rfl (fun K hK => ?_) AllReadyH.nil
    go_simp
    refine hK.out _ _ (⟨fun o => (cell_set_ne (show w.heap.size ≠ p by omega)).trans ((HSE.out _ HE4.out).1 o), fun o => (cell_set_ne (show w.heap.size + 1 ≠ p by omega)).trans ((HSE.out _ HE4.out).2 o)⟩) (fun hHeld => ?_)
    clear hK K
    (try simp only [Act.put, sA, sB, sC])
    refine wpAnyH_done (by kernel_rfl) ?_ _
    go_wp2_with fail
    go_meet
    have hown5 := ownsRow_setCell_below hown4 (a := ⟨p, 9, none⟩) (show p < W2.heap.size by omega) (.slice V (nr + 1) cx)
    exact ⟨rfl, V, cx, Ev.setCell (HEW.out.trans HE4.out) (by simp; omega) _, set_heap HQ4.out (by omega), by rw [set_heap_same HX4.out]; rfl, fun h => sl_own (by decide) (rdc_len _) (by omega) hown5⟩
   ·
    go_simp
    refine hK.out _ _ (HSE.out _ (Ev.alloc (Ev.alloc (Ev.drew (Ev.refl W2)) _) _)) (fun hHeld => ?_)
    clear hK K
    (try simp only [Act.put, sA, sB, sC])
    refine wpAnyH_ready (rs := [3]) (by kernel_rfl) (by simp) ?_
    refine AllReadyH.cons rfl (fun K hK => ?_) AllReadyH.nil
    have hEA := hid (Ev.alloc (Ev.alloc (Ev.drew (Ev.refl W2)) (.cells #[] 96)) (.cells #[.int .i64 l.hr, .int .i64 l.sn, .int .i64 l.er] 96))
    refine step_append_any (enc := rdc) rfl (.tmp 24) (.tmp 26) 26 rfl W2.heap.size 96 i0 _ 3 24 Try.underlying26 hi0 hz0 hz1 hz2 rfl (by decide) _ 0 [] rfl ((World.ownsRow_lit W2 #[] 0 (Nat.le_refl _) (by decide) rfl).ev (by repeat (first | exact Ev.refl _ | refine Ev.drew ?_ | refine Ev.alloc ?_ _))) Ar nr cr f.rds _ rfl (HW.out.ev (HEW.out.trans (by repeat (first | exact Ev.refl _ | refine Ev.drew ?_ | refine Ev.alloc ?_ _)))) (rdc_len _) (rdc_one _) (by unfold maxLen; omega) (by omega) (by first | (simp; done) | (simp; omega)) ?_
    intro v' w3 hown' hgrow
    have hown3 : w3.ownsRow W2.heap.size 96 3 v' nr (f.rds.flatMap rdc) := (by simpa using hown')
    have HE3 := hid (Ev.grown (by repeat (first | exact Ev.refl _ | refine Ev.drew ?_ | refine Ev.alloc ?_ _)) hgrow (fun k e => by have e2 : some W2.heap.size = some k := e; simp at e2; omega) : Ev W2 w3)
    have HM := hid ((hgrow.block (W2.heap.size + 1) (by simp) (fun e => by have e2 : some W2.heap.size = some (W2.heap.size + 1) := e.symm; simp at e2)).trans (alloc2 W2 (.cells #[] 96) (.cells #[.int .i64 l.hr, .int .i64 l.sn, .int .i64 l.er] 96)).2.1 : w3.heap[W2.heap.size + 1]? = some (.cells #[.int .i64 l.hr, .int .i64 l.sn, .int .i64 l.er] 96 (0, 0)))
    refine hK.out _ _ (HSE.out _ HE3.out) (fun hHeld => ?_)
    clear hK K
    (try simp only [Act.put, sA, sB, sC])
    refine wpAnyH_ready (rs := [6]) (by kernel_rfl) (by simp) ?_
    refine AllReadyH.cons rfl (fun K hK => ?_) AllReadyH.nil
    refine step_append_own rfl (.tmp 27) (.tmp 29) 26 rfl W2.heap.size 96 i0 _ 3 24 Try.underlying26 hi0 hz0 hz1 hz2 rfl (by decide) v' nr (f.rds.flatMap rdc) rfl hown3 ⟨W2.heap.size + 1, 0, none⟩ 1 1 [.int .i64 l.hr, .int .i64 l.sn, .int .i64 l.er] rfl rfl (news_in HM.out) (by simp [Value.oneCell']) (by unfold maxLen; omega) (by omega) (Nat.le_trans HE3.out.size (by first | exact Nat.le_refl _ | (simp; done) | (simp; omega))) ?_
    intro v2 w4 hown2 hgrow2 _
    have hown4 : w4.ownsRow W2.heap.size 96 3 v2 (nr + 1) ((f.rds ++ [l]).flatMap rdc) := by rw [List.flatMap_append]; exact hown2
    obtain ⟨V, cx, rfl⟩ := own_form hown4
    have HE4 := hid (Ev.grown (HE3.out) hgrow2 (fun k e => (hown3.lt k e).1))
    have HX4 := hid (HE4.out.heap HC2.out)
    have HQ4 := hid (HE4.out.heap Q0c.out)
    clear hown2 hgrow2
    obtain ⟨y0, y1, y2, y3, y4, y5, y6, y7, y8, y9⟩ := cells10 HX4.out
    obtain ⟨f0, f1, f2, f3, f4, f5, f6, f7, f8, f9⟩ := frz10 HX4.out
    refine hK.out _ _ (HSE.out _ HE4.out) (fun hHeld => ?_)
    clear hK K
    (try simp only [Act.put, sA, sB, sC])
    refine wpAnyH_take (i := 7) (v := ?_) rfl (by kernel_rfl) (by kernel_rfl) (by kernel_rfl) (fun _ _ _ h => h) (Or.inl ⟨by rfl, ?hy⟩) (by assumption) ?_
    case hy => (intro w hSw; (try dsimp only at hSw); go_simp; with_reducible rfl)
    (try simp only [Act.put, sA, sB, sC])
    refine wpAnyH_ready (rs := [8]) (by kernel_rfl) (by simp) ?_
    refine AllReadyH.cons rfl (fun K hK => ?_) AllReadyH.nil
    go_simp
    refine hK.out _ _ (⟨fun o => (cell_set_ne (show w.heap.size ≠ p by omega)).trans ((HSE.out _ HE4.out).1 o), fun o => (cell_set_ne (show w.heap.size + 1 ≠ p by omega)).trans ((HSE.out _ HE4.out).2 o)⟩) (fun hHeld => ?_)
    clear hK K
    (try simp only [Act.put, sA, sB, sC])
    refine wpAnyH_done (by kernel_rfl) ?_ _
    go_wp2_with fail
    go_meet
    have hown5 := ownsRow_setCell_below hown4 (a := ⟨p, 9, none⟩) (show p < W2.heap.size by omega) (.slice V (nr + 1) cx)
    exact ⟨rfl, V, cx, Ev.setCell (HEW.out.trans HE4.out) (by simp; omega) _, set_heap HQ4.out (by omega), by rw [set_heap_same HX4.out]; rfl, fun h => sl_own (by decide) (rdc_len _) (by omega) hown5⟩
  ·
   go_simp
   refine hK.out _ _ (HSE.out _ (Ev.alloc (Ev.drew (Ev.refl W2)) _)) (fun hHeld => ?_)
   clear hK K
   (try simp only [Act.put, sA, sB, sC])
   refine wpAnyH_ready (rs := [0]) (by kernel_rfl) (by simp) ?_
   refine AllReadyH.cons rfl (fun K hK => ?_) AllReadyH.nil
   go_simp
   refine hK.out _ _ (HSE.out _ (Ev.alloc (Ev.alloc (Ev.drew (Ev.refl W2)) _) _)) (fun hHeld => ?_)
   clear hK K
   (try simp only [Act.put, sA, sB, sC])
   refine wpAnyH_ready (rs := [3]) (by kernel_rfl) (by simp) ?_
   refine AllReadyH.cons rfl (fun K hK => ?_) AllReadyH.nil
   have hEA := hid (Ev.alloc (Ev.alloc (Ev.drew (Ev.refl W2)) (.cells #[.int .i64 l.hr, .int .i64 l.sn, .int .i64 l.er] 96)) (.cells #[] 96))
   have hOW : ((W2.alloc (.cells #[.int .i64 l.hr, .int .i64 l.sn, .int .i64 l.er] 96)).alloc (.cells #[] 96)).ownsRow W2.heap.size 96 3 (.slice (some ⟨W2.heap.size + 1, 0, none⟩) 0 0) 0 (([] : List M.Rd).flatMap rdc) := by
    have h := World.ownsRow_lit (base := W2.heap.size) (e := 96) (size := 3) (W2.alloc (.cells #[.int .i64 l.hr, .int .i64 l.sn, .int .i64 l.er] 96)) #[] 0 (by simp) (by decide) rfl
    rw [World.size_alloc] at h
    exact h
   refine step_append_any (enc := rdc) rfl (.tmp 24) (.tmp 26) 26 rfl W2.heap.size 96 i0 _ 3 24 Try.underlying26 hi0 hz0 hz1 hz2 rfl (by decide) _ 0 [] rfl (hOW.ev (by repeat (first | exact Ev.refl _ | refine Ev.drew ?_ | refine Ev.alloc ?_ _))) Ar nr cr f.rds _ rfl (HW.out.ev (HEW.out.trans (by repeat (first | exact Ev.refl _ | refine Ev.drew ?_ | refine Ev.alloc ?_ _)))) (rdc_len _) (rdc_one _) (by unfold maxLen; omega) (by omega) (by first | (simp; done) | (simp; omega)) ?_
   intro v' w3 hown' hgrow
   have hown3 : w3.ownsRow W2.heap.size 96 3 v' nr (f.rds.flatMap rdc) := (by simpa using hown')
   have HE3 := hid (Ev.grown (by repeat (first | exact Ev.refl _ | refine Ev.drew ?_ | refine Ev.alloc ?_ _)) hgrow (fun k e => by have e2 : some (W2.heap.size + 1) = some k := e; simp at e2; omega) : Ev W2 w3)
   have HM := hid ((hgrow.block W2.heap.size (by simp; omega) (fun e => by have e2 : some (W2.heap.size + 1) = some W2.heap.size := e.symm; simp at e2)).trans (alloc2 W2 (.cells #[.int .i64 l.hr, .int .i64 l.sn, .int .i64 l.er] 96) (.cells #[] 96)).1 : w3.heap[W2.heap.size]? = some (.cells #[.int .i64 l.hr, .int .i64 l.sn, .int .i64 l.er] 96 (0, 0)))
   refine hK.out _ _ (HSE.out _ HE3.out) (fun hHeld => ?_)
   clear hK K
   (try simp only [Act.put, sA, sB, sC])
   refine wpAnyH_ready (rs := [6]) (by kernel_rfl) (by simp) ?_
   refine AllReadyH.cons rfl (fun K hK => ?_) AllReadyH.nil
   refine step_append_own rfl (.tmp 27) (.tmp 29) 26 rfl W2.heap.size 96 i0 _ 3 24 Try.underlying26 hi0 hz0 hz1 hz2 rfl (by decide) v' nr (f.rds.flatMap rdc) rfl hown3 ⟨W2.heap.size, 0, none⟩ 1 1 [.int .i64 l.hr, .int .i64 l.sn, .int .i64 l.er] rfl rfl (news_in HM.out) (by simp [Value.oneCell']) (by unfold maxLen; omega) (by omega) (Nat.le_trans HE3.out.size (by first | exact Nat.le_refl _ | (simp; done) | (simp; omega))) ?_
   intro v2 w4 hown2 hgrow2 _
   have hown4 : w4.ownsRow W2.heap.size 96 3 v2 (nr + 1) ((f.rds ++ [l]).flatMap rdc) := by rw [List.flatMap_append]; exact hown2
   obtain ⟨V, cx, rfl⟩ := own_form hown4
   have HE4 := hid (Ev.grown (HE3.out) hgrow2 (fun k e => (hown3.lt k e).1))
   have HX4 := hid (HE4.out.heap HC2.out)
   have HQ4 := hid (HE4.out.heap Q0c.out)
   clear hown2 hgrow2
   obtain ⟨y0, y1, y2, y3, y4, y5, y6, y7, y8, y9⟩ := cells10 HX4.out
   obtain ⟨f0, f1, f2, f3, f4, f5, f6, f7, f8, f9⟩ := frz10 HX4.out
   refine hK.out _ _ (HSE.out _ HE4.out) (fun hHeld => ?_)
   clear hK K
   (try simp only [Act.put, sA, sB, sC])
   refine wpAnyH_take (i := 7) (v := ?_) rfl (by kernel_rfl) (by kernel_rfl) (by kernel_rfl) (fun _ _ _ h => h) (Or.inl ⟨by rfl, ?hy⟩) (by assumption) ?_
   case hy => (intro w hSw; (try dsimp only at hSw); go_simp; with_reducible rfl)
   (try simp only [Act.put, sA, sB, sC])
   refine wpAnyH_ready (rs := [8]) (by kernel_rfl) (by simp) ?_
   refine AllReadyH.cons rfl (fun K hK => ?_) AllReadyH.nil
   go_simp
   refine hK.out _ _ (⟨fun o => (cell_set_ne (show w.heap.size ≠ p by omega)).trans ((HSE.out _ HE4.out).1 o), fun o => (cell_set_ne (show w.heap.size + 1 ≠ p by omega)).trans ((HSE.out _ HE4.out).2 o)⟩) (fun hHeld => ?_)
   clear hK K
   (try simp only [Act.put, sA, sB, sC])
   refine wpAnyH_done (by kernel_rfl) ?_ _
   go_wp2_with fail
   go_meet
   have hown5 := ownsRow_setCell_below hown4 (a := ⟨p, 9, none⟩) (show p < W2.heap.size by omega) (.slice V (nr + 1) cx)
   exact ⟨rfl, V, cx, Ev.setCell (HEW.out.trans HE4.out) (by simp; omega) _, set_heap HQ4.out (by omega), by rw [set_heap_same HX4.out]; rfl, fun h => sl_own (by decide) (rdc_len _) (by omega) hown5⟩
 case rest =>
  obtain ⟨rfl, V, cx, hE5, hQ, hX, hS⟩ := hcut
  obtain ⟨W5, hW5⟩ : ∃ x, x = wc := ⟨_, rfl⟩
  subst hW5
  have HQ5 := hid hQ
  have HX5 := hid hX
  have HSX := hid (show CS W5 W5.heap.size (M.withL f (f.rds ++ [l])) Aw At V nw cw nt ct (nr + 1) cx from ⟨(HCS.out.ev hE5).w_, (HCS.out.ev hE5).t, hS (by omega)⟩)
  have HRY := hid (fun W (hE : Ev W5 W) => by have := readyL_c f (f.rds ++ [l]) Aw At V nw cw nt ct (nr + 1) cx hl0 W (fun _ => HSX.out.ev hE); rw [hrx] at this; exact this)
  have HHX := hid (fun W (h : CS W W.heap.size (M.withL f (f.rds ++ [l])) Aw At V nw cw nt ct (nr + 1) cx) => HeapL_c f (f.rds ++ [l]) Aw At V nw cw nt ct (nr + 1) cx (by omega) (by omega) (by omega) W h)
  have HM := hid hmore
  have HN := hid hnl1
  have HSUB := hid hsub
  clear hmore hnl1 hsub hlx hlen hln hwl hlast
  generalize M.shortest (M.spares f) nr = sf at HLF HM HM7
  generalize M.shortest (M.spares (M.withL f (f.rds ++ [l]))) (nr + 1) = sx at HLX HM HN
  obtain ⟨hm1, hm2⟩ := HM.out
  clear hQ hX hS y0 y1 y2 q0 q1 q2 q3 q4 q5 q6 q7 q8 q9 Q0c Q1c HC2 HEW hpa hpb hlq hlq1 HSE HW
  obtain ⟨y0, y1, y2, y3, y4, y5, y6, y7, y8, y9⟩ := cells10 HX5.out
  obtain ⟨q0, q1, q2, q3, q4, q5, q6, q7, q8, q9⟩ := cells10 HQ5.out
  go_upto_region 5 with (first | (go_at_call 50; with_reducible refine (HRD.out _ hE5).mono ?_; rintro e w6 ⟨rfl, hb6⟩; clear y0 y1 y2 y3 y4 y5 y6 y7 y8 y9; clear q0 q1 q2 q3 q4 q5 q6 q7 q8 q9; obtain ⟨y0, y1, y2, y3, y4, y5, y6, y7, y8, y9⟩ := cells10 (hb6.heap HX5.out); obtain ⟨q0, q1, q2, q3, q4, q5, q6, q7, q8, q9⟩ := cells10 (hb6.heap HQ5.out)) | (go_at_call 50; with_reducible refine (HRY.out _ hb6).mono ?_; rintro e x0 ⟨rfl, hb7⟩; have HP0 := hid (hb6.trans hb7); clear y0 y1 y2 y3 y4 y5 y6 y7 y8 y9; clear q0 q1 q2 q3 q4 q5 q6 q7 q8 q9; obtain ⟨y0, y1, y2, y3, y4, y5, y6, y7, y8, y9⟩ := cells10 (HP0.out.heap HX5.out); obtain ⟨q0, q1, q2, q3, q4, q5, q6, q7, q8, q9⟩ := cells10 (HP0.out.heap HQ5.out)) | (with_reducible refine ⟨trivial, ?_⟩))
  go_upto_region 6 with (first | (go_at_call 21; with_reducible refine (HHF.out _ (HCS.out.ev (hE5.trans HP0.out))).mono ?_; rintro e x1 ⟨⟨Bw1, dw1, Bt1, dt1, Br1, dr1, rfl, hc⟩, hb⟩; have HP1 := hid (HP0.out.trans hb); have HC1 := hid hc; clear hc hb) | (go_at_call 41; with_reducible refine (HLF.out Bw1 dw1 Bt1 dt1 Br1 dr1 _ HC1.out).mono ?_; rintro e x2 ⟨⟨LB2, ld2, rfl⟩, hb⟩; have HP2 := hid (HP1.out.trans hb); clear hb; clear y0 y1 y2 y3 y4 y5 y6 y7 y8 y9; clear q0 q1 q2 q3 q4 q5 q6 q7 q8 q9; obtain ⟨y0, y1, y2, y3, y4, y5, y6, y7, y8, y9⟩ := cells10 (HP2.out.heap HX5.out); obtain ⟨q0, q1, q2, q3, q4, q5, q6, q7, q8, q9⟩ := cells10 (HP2.out.heap HQ5.out)))
  go_upto_region 7 with (first | (go_at_call 21; with_reducible refine (HHX.out _ (HSX.out.ev HP2.out)).mono ?_; rintro e x3 ⟨⟨Bw3, dw3, Bt3, dt3, Br3, dr3, rfl, hc⟩, hb⟩; have HP3 := hid (HP2.out.trans hb); have HC3 := hid hc; clear hc hb) | (go_at_call 41; with_reducible refine (HLX.out Bw3 dw3 Bt3 dt3 Br3 dr3 _ HC3.out).mono ?_; rintro e x4 ⟨⟨LB4, ld4, rfl⟩, hb⟩; have HP4 := hid (HP3.out.trans hb); clear hb; clear y0 y1 y2 y3 y4 y5 y6 y7 y8 y9; clear q0 q1 q2 q3 q4 q5 q6 q7 q8 q9; obtain ⟨y0, y1, y2, y3, y4, y5, y6, y7, y8, y9⟩ := cells10 (HP4.out.heap HX5.out); obtain ⟨q0, q1, q2, q3, q4, q5, q6, q7, q8, q9⟩ := cells10 (HP4.out.heap HQ5.out)))
  clear HRD HRY
  have hm7 := HM7.out
  have g1 : ¬ ((sx.length : Int) < sf.length) := by omega
  have g2 : IntKind.i64.wrap ((sf.length : Int) + 1) = (sf.length : Int) + 1 := IntWalk.i64_in _ (by omega)
  have g3 : ¬ ((sx.length : Int) > (sf.length : Int) + 1) := by omega
  have g3' : ¬ ((sf.length : Int) + 1 < sx.length) := by omega
  by_cases hm0 : 0 < sx.length
  ·
   have g4 : (0 : Int) < sx.length := by omega
   go_wp2_with (first | (go_at_call 19; with_reducible refine (awake_c _).mono ?_; rintro e w99 ⟨rfl, hb99⟩) | (with_reducible refine ⟨trivial, ?_⟩))
   go_ret
   exact ⟨rfl, (hE5.trans HP4.out).trans hb99⟩
  ·
   have g4 : ¬ ((0 : Int) < sx.length) := by omega
   have htx : M.truths (M.withL f (f.rds ++ [l])) ≠ [] := HN.out (by omega)
   have htf : M.truths f ≠ [] := fun e => by
    cases ht : M.truths (M.withL f (f.rds ++ [l])) with
    | nil => exact htx ht
    | cons t r => have := HSUB.out t (by rw [ht]; simp); rw [e] at this; cases this
   have hpx : M.isTurns (M.withL f (f.rds ++ [l])) plan = true := HTN0.out
   have hbf := M.begin_is h0 HTN0.out htf
   have hbx := M.begin_is h0x hpx htx
   have hbf1 := M.begin_is (nm := true) h0 rfl htf
   have hbx1 := M.begin_is (nm := true) h0x rfl htx
   have HBF := hid (fun (Bw : Option Addr) (dw : Nat) (Bt : Option Addr) (dt : Nat) (Br : Option Addr) (dr : Nat) (L : Option Addr) (d : Nat) W (h : CS W W.heap.size f Bw Bt Br nw dw nt dt nr dr) (h3 : Sl ics 1 W W.heap.size L pn d plan) => Bounds0_ok f Bw Bt Br nw dw nt dt nr dr L pn d plan hl0 W h h3 hbf)
   have HBX := hid (fun (Bw : Option Addr) (dw : Nat) (Bt : Option Addr) (dt : Nat) (Br : Option Addr) (dr : Nat) (L : Option Addr) (d : Nat) W (h : CS W W.heap.size (M.withL f (f.rds ++ [l])) Bw Bt Br nw dw nt dt (nr + 1) dr) (h3 : Sl ics 1 W W.heap.size L pn d plan) => BoundsM_ok f (f.rds ++ [l]) Bw Bt Br nw dw nt dt (nr + 1) dr L pn d plan hl0 W h h3 hbx)
   have HKF := hid (fun (Bw : Option Addr) (dw : Nat) (Bt : Option Addr) (dt : Nat) (Br : Option Addr) (dr : Nat) (L : Option Addr) (d : Nat) W (h : CS W W.heap.size f Bw Bt Br nw dw nt dt nr dr) (h3 : Sl ics 1 W W.heap.size L pn d plan) => Keeps0_ok f Bw Bt Br nw dw nt dt nr dr L pn d plan hl0 W h h3 hbf)
   have HKX := hid (fun (Bw : Option Addr) (dw : Nat) (Bt : Option Addr) (dt : Nat) (Br : Option Addr) (dr : Nat) (L : Option Addr) (d : Nat) W (h : CS W W.heap.size (M.withL f (f.rds ++ [l])) Bw Bt Br nw dw nt dt (nr + 1) dr) (h3 : Sl ics 1 W W.heap.size L pn d plan) => KeepsM_ok f (f.rds ++ [l]) Bw Bt Br nw dw nt dt (nr + 1) dr L pn d plan hl0 W h h3 hbx)
   have HNF := hid (fun W (h : CS W W.heap.size f Aw At Ar nw cw nt ct nr cr) => needed_c f Aw At Ar nw cw nt ct nr cr hl0 (by omega) (by omega) hbf1 W h)
   have HNX := hid (fun W (h : CS W W.heap.size (M.withL f (f.rds ++ [l])) Aw At V nw cw nt ct (nr + 1) cx) => neededM_c f (f.rds ++ [l]) Aw At V nw cw nt ct (nr + 1) cx hl0 (by omega) (by omega) hbx1 W h)
   have hnar := M.bounds_sub (f := f) (g := (M.withL f (f.rds ++ [l]))) rfl htx HSUB.out plan (fun t _ => M.heats_with f (f.rds ++ [l]) t plan)
   have hkee := M.keeps_sub (f := f) (g := (M.withL f (f.rds ++ [l]))) htx HSUB.out plan (fun t _ => M.stays_with f (f.rds ++ [l]) t plan)
   have hfl : f.wet.length = nw := HCS.out.w_.len
   have hnee := M.need_sub (f := f) (g := (M.withL f (f.rds ++ [l]))) rfl (by omega) (a := M.truths (M.withL f (f.rds ++ [l]))) (b := M.truths f) (fun pl hb => by
    rw [List.all_eq_true] at hb ⊢
    exact fun t ht => by rw [M.stays_with]; exact hb t (HSUB.out t ht))
   have hnb1 := M.need_bd f (M.truths f) (by omega)
   have hnb2 := M.need_bd (M.withL f (f.rds ++ [l])) (M.truths (M.withL f (f.rds ++ [l]))) (by show f.wet.length ≤ 10; omega)
   generalize M.bounds f (M.truths f) plan = bf at HBF hnar
   generalize M.bounds (M.withL f (f.rds ++ [l])) (M.truths (M.withL f (f.rds ++ [l]))) plan = bx at HBX hnar
   generalize M.keepsOf f (M.truths f) plan = kf at HKF hkee
   generalize M.keepsOf (M.withL f (f.rds ++ [l])) (M.truths (M.withL f (f.rds ++ [l]))) plan = kx at HKX hkee
   generalize M.need f (M.truths f) = nf at HNF hnee hnb1
   generalize M.need (M.withL f (f.rds ++ [l])) (M.truths (M.withL f (f.rds ++ [l]))) = nx at HNX hnee hnb2
   have HNAR := hid hnar
   have HKEE := hid hkee
   clear HN HM HSUB hnar hkee hbf hbx hbf1 hbx1 htx htf HTN0 hpx HLF HLX hfl HM7
   go_upto_region 12 with (first | (go_at_call 52; with_reducible refine (HTU.out _).mono ?_; rintro e x5 ⟨⟨BTN, dTN, rfl, htn⟩, hb⟩; have HK5 := hid (Ev.refl x5); have HP5 := hid (HP4.out.trans hb); have HTN := hid htn; clear hb htn; clear y0 y1 y2 y3 y4 y5 y6 y7 y8 y9; clear q0 q1 q2 q3 q4 q5 q6 q7 q8 q9; obtain ⟨y0, y1, y2, y3, y4, y5, y6, y7, y8, y9⟩ := cells10 (HP5.out.heap HX5.out); obtain ⟨q0, q1, q2, q3, q4, q5, q6, q7, q8, q9⟩ := cells10 (HP5.out.heap HQ5.out)) | (with_reducible refine ⟨trivial, ?_⟩))
   clear hm1 hm2 g1 g2 g3 g3' g4 hm7 hm0
   go_upto_region 13 with (first | (go_at_call 21; with_reducible refine (HHF.out _ (HCS.out.ev (hE5.trans HP5.out))).mono ?_; rintro e x6 ⟨⟨Bw6, dw6, Bt6, dt6, Br6, dr6, rfl, hc⟩, hb⟩; have HP6 := hid (HP5.out.trans hb); have HK6 := hid (HK5.out.trans hb); have HC6 := hid hc; clear hc hb) | (go_at_call 23; with_reducible refine (list_c BTN pn dTN plan (by omega) _ (HTN.out.ev HK6.out)).mono ?_; rintro e x7 ⟨⟨L7, D7, rfl, ho⟩, hb⟩; have HP7 := hid (HP6.out.trans hb); have HK7 := hid (HK6.out.trans hb); have HO7 := hid (sl_own (enc := ics) (by decide) (ics_len _) (by omega) ho); have HC7 := hid (HC6.out.ev hb); clear ho hb) | (go_at_call 31; with_reducible refine (HBF.out Bw6 dw6 Bt6 dt6 Br6 dr6 L7 D7 _ HC7.out HO7.out).mono ?_; rintro e x8 ⟨⟨BB8, bd8, rfl, hc⟩, hb⟩; have HP8 := hid (HP7.out.trans hb); have HK8 := hid (HK7.out.trans hb); have HA8 := hid (Ev.refl x8); have HR8 := hid hc; clear hc hb; clear y0 y1 y2 y3 y4 y5 y6 y7 y8 y9; clear q0 q1 q2 q3 q4 q5 q6 q7 q8 q9; obtain ⟨y0, y1, y2, y3, y4, y5, y6, y7, y8, y9⟩ := cells10 (HP8.out.heap HX5.out); obtain ⟨q0, q1, q2, q3, q4, q5, q6, q7, q8, q9⟩ := cells10 (HP8.out.heap HQ5.out)))
   go_upto_region 14 with (first | (go_at_call 21; with_reducible refine (HHX.out _ (HSX.out.ev HP8.out)).mono ?_; rintro e x9 ⟨⟨Bw9, dw9, Bt9, dt9, Br9, dr9, rfl, hc⟩, hb⟩; have HP9 := hid (HP8.out.trans hb); have HK9 := hid (HK8.out.trans hb); have HA9 := hid (HA8.out.trans hb); have HC9 := hid hc; clear hc hb) | (go_at_call 23; with_reducible refine (list_c BTN pn dTN plan (by omega) _ (HTN.out.ev HK9.out)).mono ?_; rintro e x10 ⟨⟨L10, D10, rfl, ho⟩, hb⟩; have HP10 := hid (HP9.out.trans hb); have HK10 := hid (HK9.out.trans hb); have HA10 := hid (HA9.out.trans hb); have HO10 := hid (sl_own (enc := ics) (by decide) (ics_len _) (by omega) ho); have HC10 := hid (HC9.out.ev hb); clear ho hb) | (go_at_call 31; with_reducible refine (HBX.out Bw9 dw9 Bt9 dt9 Br9 dr9 L10 D10 _ HC10.out HO10.out).mono ?_; rintro e x11 ⟨⟨BB11, bd11, rfl, hc⟩, hb⟩; have HP11 := hid (HP10.out.trans hb); have HK11 := hid (HK10.out.trans hb); have HA11 := hid (HA10.out.trans hb); have HB11 := hid (Ev.refl x11); have HR11 := hid hc; clear hc hb; clear y0 y1 y2 y3 y4 y5 y6 y7 y8 y9; clear q0 q1 q2 q3 q4 q5 q6 q7 q8 q9; obtain ⟨y0, y1, y2, y3, y4, y5, y6, y7, y8, y9⟩ := cells10 (HP11.out.heap HX5.out); obtain ⟨q0, q1, q2, q3, q4, q5, q6, q7, q8, q9⟩ := cells10 (HP11.out.heap HQ5.out)))
   go_upto_region 15 with (first | (go_at_call 21; with_reducible refine (HHF.out _ (HCS.out.ev (hE5.trans HP11.out))).mono ?_; rintro e x12 ⟨⟨Bw12, dw12, Bt12, dt12, Br12, dr12, rfl, hc⟩, hb⟩; have HP12 := hid (HP11.out.trans hb); have HK12 := hid (HK11.out.trans hb); have HA12 := hid (HA11.out.trans hb); have HB12 := hid (HB11.out.trans hb); have HC12 := hid hc; clear hc hb) | (go_at_call 23; with_reducible refine (list_c BTN pn dTN plan (by omega) _ (HTN.out.ev HK12.out)).mono ?_; rintro e x13 ⟨⟨L13, D13, rfl, ho⟩, hb⟩; have HP13 := hid (HP12.out.trans hb); have HK13 := hid (HK12.out.trans hb); have HA13 := hid (HA12.out.trans hb); have HB13 := hid (HB12.out.trans hb); have HO13 := hid (sl_own (enc := ics) (by decide) (ics_len _) (by omega) ho); have HC13 := hid (HC12.out.ev hb); clear ho hb) | (go_at_call 32; with_reducible refine (HKF.out Bw12 dw12 Bt12 dt12 Br12 dr12 L13 D13 _ HC13.out HO13.out).mono ?_; rintro e x14 ⟨rfl, hb⟩; have HP14 := hid (HP13.out.trans hb); have HK14 := hid (HK13.out.trans hb); have HA14 := hid (HA13.out.trans hb); have HB14 := hid (HB13.out.trans hb); clear hb; clear y0 y1 y2 y3 y4 y5 y6 y7 y8 y9; clear q0 q1 q2 q3 q4 q5 q6 q7 q8 q9; obtain ⟨y0, y1, y2, y3, y4, y5, y6, y7, y8, y9⟩ := cells10 (HP14.out.heap HX5.out); obtain ⟨q0, q1, q2, q3, q4, q5, q6, q7, q8, q9⟩ := cells10 (HP14.out.heap HQ5.out)))
   go_upto_region 16 with (first | (go_at_call 21; with_reducible refine (HHX.out _ (HSX.out.ev HP14.out)).mono ?_; rintro e x15 ⟨⟨Bw15, dw15, Bt15, dt15, Br15, dr15, rfl, hc⟩, hb⟩; have HP15 := hid (HP14.out.trans hb); have HK15 := hid (HK14.out.trans hb); have HA15 := hid (HA14.out.trans hb); have HB15 := hid (HB14.out.trans hb); have HC15 := hid hc; clear hc hb) | (go_at_call 23; with_reducible refine (list_c BTN pn dTN plan (by omega) _ (HTN.out.ev HK15.out)).mono ?_; rintro e x16 ⟨⟨L16, D16, rfl, ho⟩, hb⟩; have HP16 := hid (HP15.out.trans hb); have HK16 := hid (HK15.out.trans hb); have HA16 := hid (HA15.out.trans hb); have HB16 := hid (HB15.out.trans hb); have HO16 := hid (sl_own (enc := ics) (by decide) (ics_len _) (by omega) ho); have HC16 := hid (HC15.out.ev hb); clear ho hb) | (go_at_call 32; with_reducible refine (HKX.out Bw15 dw15 Bt15 dt15 Br15 dr15 L16 D16 _ HC16.out HO16.out).mono ?_; rintro e x17 ⟨rfl, hb⟩; have HP17 := hid (HP16.out.trans hb); have HK17 := hid (HK16.out.trans hb); have HA17 := hid (HA16.out.trans hb); have HB17 := hid (HB16.out.trans hb); clear hb; clear y0 y1 y2 y3 y4 y5 y6 y7 y8 y9; clear q0 q1 q2 q3 q4 q5 q6 q7 q8 q9; obtain ⟨y0, y1, y2, y3, y4, y5, y6, y7, y8, y9⟩ := cells10 (HP17.out.heap HX5.out); obtain ⟨q0, q1, q2, q3, q4, q5, q6, q7, q8, q9⟩ := cells10 (HP17.out.heap HQ5.out)))
   have l0 := heap_lt (HP17.out.heap HQ5.out)
   have l1 := heap_lt (HP17.out.heap HX5.out)
   have HSE : Hid (∀ w', Ev x17 w' → (∀ o, w'.cell? ⟨w.heap.size, o, none⟩ = x17.cell? ⟨w.heap.size, o, none⟩) ∧ (∀ o, w'.cell? ⟨p, o, none⟩ = x17.cell? ⟨p, o, none⟩)) := hid (fun w' h => ⟨fun o => h.cells.1 _ o l0, fun o => h.cells.1 _ o l1⟩)
   go_cut [21, 22] (fun v1 v2 W => v1 = .int .i64 nf ∧ v2 = .int .i64 nx ∧ Ev x17 W)
   case first =>
    refine wp_region_held_drew (S := fun w' => (∀ o, w'.cell? ⟨w.heap.size, o, none⟩ = x17.cell? ⟨w.heap.size, o, none⟩) ∧ (∀ o, w'.cell? ⟨p, o, none⟩ = x17.cell? ⟨p, o, none⟩)) (by kernel_rfl) (⟨fun o => rfl, fun o => rfl⟩) (fun hHeld => ?_)
    refine tkH 0 (some 113) ?_
    (try simp only [Act.put, sA, sB, sC])
    refine tkH 2 (some 115) ?_
    (try simp only [Act.put, sA, sB, sC])
    refine wpAnyH_one (i := 1) rfl (by kernel_rfl) (by rfl) (fun K hK => ?_)
    go_simp
    refine (HNF.out _ (HCS.out.ev (hE5.trans (HP17.out.trans (Ev.drew (Ev.refl _)))))).mono ?_
    rintro e z1 ⟨rfl, hb1⟩
    have hy1 : Ev x17 z1 := Ev.trans (Ev.drew (Ev.refl _)) hb1
    refine hK.out _ _ (HSE.out _ hy1) (fun hHeld => ?_)
    clear hK K
    (try simp only [Act.put, sA, sB, sC])
    refine wpAnyH_one (i := 3) rfl (by kernel_rfl) (by rfl) (fun K hK => ?_)
    go_simp
    refine (HNX.out _ (HSX.out.ev (HP17.out.trans hy1))).mono ?_
    rintro e z3 ⟨rfl, hb3⟩
    have hy3 : Ev x17 z3 := Ev.trans hy1 hb3
    refine hK.out _ _ (HSE.out _ hy3) (fun hHeld => ?_)
    clear hK K
    (try simp only [Act.put, sA, sB, sC])
    refine tkH 4 (some 21) ?_
    (try simp only [Act.put, sA, sB, sC])
    refine tkH 5 (some 22) ?_
    (try simp only [Act.put, sA, sB, sC])
    refine wpAnyH_done (by kernel_rfl) ?_ _
    go_wp2_with fail
    go_meet
    exact ⟨rfl, rfl, hy3⟩
   case rest =>
    clear y0 y1 y2 y3 y4 y5 y6 y7 y8 y9
    clear q0 q1 q2 q3 q4 q5 q6 q7 q8 q9
    clear HSE l0 l1 HNF HNX HBF HBX HKF HKX HHF HHX HTU
    obtain ⟨rfl, rfl, hc⟩ := hcut
    obtain ⟨x18, hx18⟩ : ∃ x, x = wc := ⟨_, rfl⟩
    subst hx18
    have HP18 := hid (HP17.out.trans hc)
    have HA18 := hid (HA17.out.trans hc)
    have HB18 := hid (HB17.out.trans hc)
    have HIN := hid (fun W (hA : Ev x8 W) (hB : Ev x11 W) => narrower_t BB11 BB8 nw bd11 nw bd8 bx bf HNAR.out W (HR11.out.ev hB) (HR8.out.ev hA))
    have j1 : nx ≥ 0 := hnb2.1
    have j2 : nx ≤ nf := hnee
    clear hc hnb1 hnb2 hnee
    rcases HKEE.out with hk | hk
    ·
     subst hk
     go_wp2_with (first | (go_at_call 59; with_reducible refine (HIN.out _ HA18.out HB18.out).mono ?_; rintro e x19 ⟨rfl, hb19⟩) | (go_at_call 19; with_reducible refine (awake_c _).mono ?_; rintro e w99 ⟨rfl, hb99⟩) | (with_reducible refine ⟨trivial, ?_⟩))
     go_ret
     exact ⟨rfl, ((hE5.trans HP18.out).trans hb19).trans hb99⟩
    ·
     subst hk
     by_cases h3 : kf = 3
     ·
      subst h3
      go_wp2_with (first | (go_at_call 59; with_reducible refine (HIN.out _ HA18.out HB18.out).mono ?_; rintro e x19 ⟨rfl, hb19⟩) | (go_at_call 19; with_reducible refine (awake_c _).mono ?_; rintro e w99 ⟨rfl, hb99⟩) | (with_reducible refine ⟨trivial, ?_⟩))
      go_ret
      exact ⟨rfl, ((hE5.trans HP18.out).trans hb19).trans hb99⟩
     ·
      have h4 : (kf == 3) = false := by simpa using h3
      have h5 : (kf == kf) = true := by simp
      go_wp2_with (first | (go_at_call 59; with_reducible refine (HIN.out _ HA18.out HB18.out).mono ?_; rintro e x19 ⟨rfl, hb19⟩) | (go_at_call 19; with_reducible refine (awake_c _).mono ?_; rintro e w99 ⟨rfl, hb99⟩) | (with_reducible refine ⟨trivial, ?_⟩))
      go_ret
      exact ⟨rfl, ((hE5.trans HP18.out).trans hb19).trans hb99⟩

theorem couchMore_c (f : M.Cf) (l : M.Rd) (Aw At Ar : Option Addr) (nw cw nt ct nr cr : Nat) (hl0 : -9223372036854775808 ≤ f.last) (b : Nat) (hb : b < 65536) (hncl : nr ≤ cr) (hnl44 : nr ≤ 5864062014800) (w : World) (HW : Hid (Sl0 rdc 3 w w.heap.size Ar nr f.rds)) (hs : M.small nw nt nr → CS w w.heap.size f Aw At Ar nw cw nt ct nr cr) :
  Calls Try.prog 13 #[.agg #[.int .i64 f.last, .int .i64 f.size, .int .i64 f.cool, .int .i64 f.die, .int .i64 f.burn, .int .i64 f.st.lo, .int .i64 f.st.hi, .slice Aw nw cw, .slice At nt ct, .slice Ar nr cr], .agg #[.int .i64 l.hr, .int .i64 l.sn, .int .i64 l.er], .int .u16 (b : Int)] w fun e w' => e = .returned (.bool true) ∧ Ev w w' := by
 have key : ∀ (g : M.Cf) (k : Nat), M.rdy g nw nt k = true → M.small nw nt k ∧ M.check g = 0 := fun g k h => by
  unfold M.rdy at h
  rw [Bool.and_eq_true, Bool.and_eq_true, decide_eq_true_eq, decide_eq_true_eq] at h
  exact ⟨h.1.1, h.2⟩
 cases hr : M.rdy f nw nt nr with
 | false => exact couchMore_no1 f l Aw At Ar nw cw nt ct nr cr hl0 b hb hncl hnl44 w HW hs hr
 | true =>
  obtain ⟨hsm, h0⟩ := key f nr hr
  cases hrx : M.rdy (M.withL f (f.rds ++ [l])) nw nt (nr + 1) with
  | false => exact couchMore_no2 f l Aw At Ar nw cw nt ct nr cr hl0 b hb hncl hnl44 w HW hs hr hsm h0 hrx
  | true => exact couchMore_yes f l Aw At Ar nw cw nt ct nr cr hl0 b hb hncl hnl44 w HW hs hr hsm h0 hrx (key _ _ hrx).2
theorem couchMore_i (f : M.Cf) (l : M.Rd) (Aw At Ar : Option Addr) (nw cw nt ct nr cr : Nat) (hl0 : -9223372036854775808 ≤ f.last) (a1 : Int) (p1 : 0 ≤ a1) (q1 : a1 < 65536) (hncl : nr ≤ cr) (hnl44 : nr ≤ 5864062014800) (w : World) (HW : Hid (Sl0 rdc 3 w w.heap.size Ar nr f.rds)) (hs : M.small nw nt nr → CS w w.heap.size f Aw At Ar nw cw nt ct nr cr) :
  Calls Try.prog 13 #[.agg #[.int .i64 f.last, .int .i64 f.size, .int .i64 f.cool, .int .i64 f.die, .int .i64 f.burn, .int .i64 f.st.lo, .int .i64 f.st.hi, .slice Aw nw cw, .slice At nt ct, .slice Ar nr cr], .agg #[.int .i64 l.hr, .int .i64 l.sn, .int .i64 l.er], .int .u16 a1] w fun e w' => e = .returned (.bool true) ∧ Ev w w' := by
 obtain ⟨n1, rfl⟩ : ∃ n : Nat, a1 = n := ⟨a1.toNat, by omega⟩
 exact couchMore_c f l Aw At Ar nw cw nt ct nr cr hl0 n1 (by omega) hncl hnl44 w HW hs

end Go.Proofs.Ytgimcephbeajlaa
