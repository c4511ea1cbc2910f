import Derived.Test.YtcecmphdmpeibaaL37
import Derived.Test.YtcecmphdmpeibaaL34
import Derived.Test.YtcecmphdmpeibaaQ12
import Derived.Test.YtcecmphdmpeibaaQ17
set_option linter.unusedSimpArgs false
set_option linter.unusedVariables false
namespace Go.Proofs.Ytcecmphdmpeibaa
open Go.RowKit

/-- A list that can be read, of any length. -/
structure Sl0 {α : Type} (enc : α → List Value) (sz : Nat) (w : World) (B : Nat) (A : Option Addr) (n : Nat) (xs : List α) : Prop where
  len : xs.length = n
  cells : 0 < n → ∃ b off, A = some ⟨b, off, none⟩ ∧ b < B ∧ ∀ (k : Nat) (x : α), xs[k]? = some x → ∀ (j : Nat) (v : Value), (enc x)[j]? = some v → w.cell? ⟨b, off + k * sz + j, none⟩ = some v

section
variable {α : Type} {enc : α → List Value} {sz : Nat} {w w' : World} {B B' : Nat} {A : Option Addr} {n : Nat} {xs : List α}
theorem Sl0.keep (h : Sl0 enc sz w B A n xs) (hb : Below B w w') (hB : B ≤ B') : Sl0 enc sz w' B' A n xs :=
  ⟨h.len, fun hn => by
    obtain ⟨b, off, hA, hlt, hc⟩ := h.cells hn
    exact ⟨b, off, hA, by omega, fun k x hk j v hj => (hb.cell (p := ⟨b, _, none⟩) hlt).trans (hc k x hk j v hj)⟩⟩
theorem Sl0.ev (h : Sl0 enc sz w w.heap.size A n xs) (hb : Ev w w') : Sl0 enc sz w' w'.heap.size A n xs := h.keep hb hb.size
theorem Sl0.sl {c : Nat} (h : Sl0 enc sz w B A n xs) (hc : n ≤ c) (hn : n ≤ 1099511627776) : Sl enc sz w B A n c xs := ⟨h.len, hc, hn, h.cells⟩
end

theorem sl0_news {α : Type} {enc : α → List Value} {sz : Nat} (hsz : 0 < sz) {w : World} {B : Nat} {ad : Addr} {m : Nat} {ys : List α} (hs : Sl0 enc sz w B (some ad) m ys) (henc : ∀ y ∈ ys, (enc y).length = sz) :
    ∀ (j : Nat) (u : Value), (ys.flatMap enc)[j]? = some u → w.cell? (ad.add j) = some u := by
  intro j u hj
  have hlt : j < (ys.flatMap enc).length := (List.getElem?_eq_some_iff.1 hj).1
  rw [flat_len enc sz ys henc, hs.len] at hlt
  have hm : 0 < m := by
    rcases Nat.eq_zero_or_pos m with h | h
    · subst h; simp at hlt
    · exact h
  obtain ⟨b, off, hA, _, hc⟩ := hs.cells hm
  obtain rfl : ad = ⟨b, off, none⟩ := by simpa using hA
  have hk : j / sz < m := Nat.div_lt_of_lt_mul (by rw [Nat.mul_comm]; exact hlt)
  have hx : ys[j / sz]? = some (ys[j / sz]'(by rw [hs.len]; exact hk)) := List.getElem?_eq_getElem _
  have he := henc _ (List.mem_of_getElem? hx)
  have hv : (enc (ys[j / sz]'(by rw [hs.len]; exact hk)))[j % sz]? = some ((enc (ys[j / sz]'(by rw [hs.len]; exact hk)))[j % sz]'(by rw [he]; exact Nat.mod_lt _ hsz)) := List.getElem?_eq_getElem _
  have hf := flat_get enc sz ys henc _ _ hx _ _ hv
  have hjj : j / sz * sz + j % sz = j := by rw [Nat.mul_comm]; exact Nat.div_add_mod j sz
  rw [hjj, hj] at hf
  have hcc := hc _ _ hx _ _ hv
  rw [← hf, Nat.add_assoc, hjj] at hcc
  rw [show (⟨b, off, none⟩ : Addr).add j = ⟨b, off + j, none⟩ from by unfold Addr.add; split <;> simp_all]
  exact hcc

theorem own_form {w : World} {base : Nat} {e : TypeId} {sz : Nat} {v : Value} {n : Nat} {xs : List Value} (h : w.ownsRow base e sz v n xs) : ∃ V c, v = .slice V n c := by
  rcases h.2 with ⟨rfl, rfl⟩ | ⟨g, cap, cur, rfl, _⟩
  · exact ⟨none, 0, rfl⟩
  · exact ⟨_, cap, rfl⟩

/-- append of any list to a row of one's own, in a drawn region. -/
theorem step_append_any {α : Type} {enc : α → List Value} {P : Program} {w : World} {ops : Array Oper} {o : Oper} {a : Act} {K : Act → World → Prop} {Q : Exit → Act → World → Prop} {E : Prop} (hgd : o.guard = none) (s x : Operand) (t : TypeId)
    (ho : o.op = .call { callee := .builtin .append, args := #[s, x], argTypes := #[t, t] })
    (base : Nat) (e : TypeId) (i : TypeInfo) (z : Value) (size bytes : Nat) (ht : P.underlying t = some (.slice e)) (hi : P.info? e = some i) (hz : i.zero = some z)
    (hsize : i.size = size) (hby : i.bytes = bytes) (hzs : z.cells.size = size) (hsz : 0 < size)
    (v : Value) (n : Nat) (xs : List α) (hs : a.eval s = v) (hown : w.ownsRow base e size v n (xs.flatMap enc))
    (A : Option Addr) (m c : Nat) (ys : List α) (B : Nat) (hx : a.eval x = .slice A m c) (hsl : Sl0 enc size w B A m ys) (henc : ∀ y ∈ ys, (enc y).length = size) (h1 : ∀ u ∈ ys.flatMap enc, u.oneCell' = true)
    (h63 : n + m ≤ maxLen) (hbytes : (n + m) * bytes ≤ 140737488355328) (hbase : base ≤ w.heap.size)
    (h : ∀ v' w', w'.ownsRow base e size v' (n + m) ((xs ++ ys).flatMap enc) → w.grownBy w' v.ownBlock → K (a.put o.dst v') w') :
    if Region.wanted o (yielded ops a.tmps) = true then Oper.wp P o a w K Q else E := by
  cases A with
  | none =>
    have hm : m = 0 := by
      rcases Nat.eq_zero_or_pos m with h | h
      · exact h
      · obtain ⟨b, off, hA, _⟩ := hsl.cells h; cases hA
    subst hm
    obtain rfl : ys = [] := List.eq_nil_of_length_eq_zero hsl.len
    have hk := h v w (by simpa using hown) ⟨rfl, rfl, rfl, Nat.le_refl _, fun _ _ _ => rfl⟩
    have hrun := run_append_none (P := P) (w := w) base t o.type e i size ht hi v n _ hown c
    rw [if_pos (by simp [Region.wanted, hgd])]
    unfold Oper.wp
    simp [execOp, ho, resolve, invoke, builtin, hs, hx, hrun, Result.andThen]
    exact hk
  | some ad =>
    refine step_append_own hgd s x t ho base e i z size bytes ht hi hz hsize hby hzs hsz v n _ hs hown ad m c (ys.flatMap enc) hx (by rw [flat_len enc size ys henc, hsl.len]) (sl0_news hsz hsl henc) h1 h63 hbytes hbase fun v' w' h2 h3 _ => h v' w' ?_ h3
    rw [List.flatMap_append]; exact h2

/-- The field with one more tally. -/
def M.moreF (f : M.Fl) (t : M.Tl) : M.Fl := ⟨f.rows, f.wds, f.lf, f.ts ++ [t]⟩

theorem M.said_mem {f : M.Fl} (h : M.check f = 0) : ∀ t ∈ M.rtruths f, ∀ r, r < f.rows.toNat → t.getD r 0 ∈ M.saids f := by
  intro t ht r hr
  obtain ⟨h1, h2⟩ := ((M.mem_rtruths h t).1 ht).1
  have hlt : r < t.length := by omega
  rw [List.getD_eq_getElem?_getD, List.getElem?_eq_getElem hlt, Option.getD_some]
  have := h2 _ (List.getElem_mem hlt)
  unfold M.saids
  exact List.mem_map.2 ⟨(t[r] + 1).toNat, List.mem_range.2 (by omega), by omega⟩

theorem M.next_sub {f g : M.Fl} (hf : M.check f = 0) (hg : M.check g = 0) (hr : g.rows = f.rows) (hw : g.wds = f.wds) (x : Int) (h : ∀ l ∈ M.rtruths g, l ∈ M.rtruths f) : (M.Next g x).2 ≤ (M.Next f x).2 := by
  obtain ⟨r1, r7, _⟩ := M.check_bd hf
  rw [M.next_same hf, M.next_same hg, M.rnext_q, M.rnext_q]
  unfold M.q
  rw [M.qn_dep hr hw]
  exact M.q_sub r1 r7 x _ _ _ (Nat.le_refl _) h (fun t ht => M.rt_len hf t ht) (M.said_mem hf)

theorem M.done_sub {f g : M.Fl} {D : Nat} (hg : M.begin g true = 0) (hf : M.begin f true = 0) (hD : f.wds = D) (hw : g.wds = f.wds) (h : ∀ l ∈ M.rtruths f, l ∈ M.rtruths g) {k : Nat} (hk : k < D) :
    ∃ y z, (M.done f)[k]? = some y ∧ (M.done g)[k]? = some z ∧ M.inside y z = true := by
  have key : ∀ e : M.Fl, M.begin e true = 0 → M.check e = 0 ∧ 0 < (M.truths e).length := by
    intro e he
    unfold M.begin at he
    split at he
    · rename_i h0
      refine ⟨h0, ?_⟩
      simp only [↓reduceIte] at he
      split at he
      · cases he
      · omega
    · rename_i h0
      exact absurd he h0
  obtain ⟨f0, fp⟩ := key f hf
  obtain ⟨g0, gp⟩ := key g hg
  have el : ∀ e : M.Fl, M.check e = 0 → 0 < (M.truths e).length → e.wds = D → (M.done e)[k]? = some (M.rdone k (M.rtruths e)) := by
    intro e e0 ep ed
    unfold M.done
    rw [List.getElem?_map, List.getElem?_range (by omega)]
    simp only [Option.map_some]
    rw [M.done_same e0 ep]
  refine ⟨_, _, el f f0 fp hD, el g g0 gp (hw.trans hD), M.rdone_sub h ?_ ?_⟩
  · intro e
    have := M.truths_empty f0
    rw [e] at this
    simp at this
    rw [this] at fp
    simp at fp
  · intro t ht
    have hs := ((M.mem_rtruths g0 t).1 ht).1
    obtain ⟨r1, r7, _⟩ := M.check_bd g0
    unfold M.rnum M.count
    have hb := M.cnt_bd k ((t.drop (0 : Int).toNat).take (((t.length : Int) - 1).toNat + 1 - (0 : Int).toNat))
    have h2 : ((t.drop (0 : Int).toNat).take (((t.length : Int) - 1).toNat + 1 - (0 : Int).toNat)).length ≤ t.length := by
      rw [List.length_take, List.length_drop]; omega
    have := hs.1
    omega

end Go.Proofs.Ytcecmphdmpeibaa
