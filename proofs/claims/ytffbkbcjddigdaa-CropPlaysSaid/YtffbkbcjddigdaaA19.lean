import Derived.Test.YtffbkbcjddigdaaA18
set_option linter.unusedSimpArgs false
set_option linter.unusedVariables false
namespace Go.Proofs.Ytffbkbcjddigdaa
open Go.RowKit Go.Shelf
attribute [local go_sem] Oper.semAt_some

/-- The contract of an iterator that hands over the list xs, each thing as values that lie wherever it made them. -/
def SeqY {α : Type} (F : Fence) (n : Nat) (P : Program) (g : Nat) (lb : Array Value) (Hx : Nat → Nat → α → Array Value → World → Prop) (R : Nat → Prop) (xs : List α) (w : World) : Prop :=
  ∀ (l : Nat) (J Jx : Nat → List α → World → Prop) (W : World), Below w.heap.size w W → Abides W.heap.size J → Abides W.heap.size Jx →
    (∀ B pre x av W1, W.heap.size ≤ B → B ≤ W1.heap.size → J B pre W1 → Hx W.heap.size B x av W1 → pre ++ [x] <+: xs → YieldAt F (n - 1) P l av W1 fun e W' =>
      (e = .returned (.bool true) ∧ J B (pre ++ [x]) W' ∧ Kept R W.heap.size B W1 W') ∨ (e = .returned (.bool false) ∧ Jx B (pre ++ [x]) W' ∧ Kept (fun _ => False) W.heap.size B W1 W')) →
    (∀ W', Ev W W' → J W'.heap.size [] W') →
    CallsIn F n P g (#[.func (.yield l) #[] #[]] ++ lb) W fun e W' => (∃ v, e = .returned v) ∧ ∃ B, W.heap.size ≤ B ∧ (J B xs W' ∨ ∃ pre, pre <+: xs ∧ Jx B pre W')

theorem rangeY {F : Fence} {n : Nat} {P : Program} {α : Type} {g : Operand} {ps : Array Tmp} {assign body : Code} {Q : Exit → Act → World → Prop} {a : Act} {w : World}
    (hro : F.round = none) (h1 : 1 ≤ n) {gf : Nat} {lb : Array Value} (hg : a.eval g = .func (.func gf) #[] lb) (hFg : F.fn gf) (eg : ∀ args w, (callFunc gf args).run P w = .ok (.enter gf args) w)
    {Hx : Nat → Nat → α → Array Value → World → Prop} {R : Nat → Prop} {xs : List α} {w0 : World} (hseq : SeqY F (n - 1) P gf lb Hx R xs w0) (hb0 : Below w0.heap.size w0 w) (hR : ∀ k, R k → k < w.heap.size) (hps : ∀ A B x av W, Hx A B x av W → av.size = ps.size)
    (hHx : ∀ A B x av X Y, Hx A B x av X → X.heap.size ≤ Y.heap.size → (∃ r, X.heap[w.heap.size + 1]? = some (.loop r)) → (∀ k, k ≠ w.heap.size + 1 → k < X.heap.size → Y.heap[k]? = X.heap[k]?) → Hx A B x av Y)
    (I : Nat → List α → World → Prop) (Ix : Nat → Code → List α → World → Prop) (Ax : Nat → α → Act → World → Prop)
    (hI : Abides w.heap.size I) (hIx : ∀ c, Abides w.heap.size (fun B => Ix B c)) (hAx : ∀ a', Abides w.heap.size (fun B x => Ax B x a'))
    (h0 : ∀ W', Ev w W' → I W'.heap.size [] W')
    (hassign : ∀ (l B : Nat) (pre : List α) (x : α) (av : Array Value) (W : World) (K : Act → World → Prop), w.heap.size + 2 ≤ B → B ≤ W.heap.size → I B pre W → Hx (w.heap.size + 2) B x av W → (∀ a' W', Ev W W' → Ax B x a' W' → K a' W') →
      assign.wpIn (F.inRound l) (n - 1 - 1) P (Exit.then K (fun _ _ _ => False)) { tmps := (ps.zip av).foldl (fun t (p, v) => t.setIfInBounds p v) a.tmps, defers := [] } W)
    (hbody : ∀ (l B : Nat) (pre : List α) (x : α) (av : Array Value) (a' : Act) (W : World), w.heap.size + 2 ≤ B → B ≤ W.heap.size → I B pre W → Ax B x a' W → Hx (w.heap.size + 2) B x av W → pre ++ [x] <+: xs → body.wpIn (F.inRound l) (n - 1 - 1) P (postX R w.heap.size B I Ix (pre ++ [x]) W) a' W)
    (hdone : ∀ (B : Nat) (W : World), w.heap.size + 2 ≤ B → I B xs W → W.heap[w.heap.size]? = some (.deferred (some [])) → Q .normal { a with defers := { target := .collected w.heap.size, args := #[] } :: a.defers } W)
    (hstop : ∀ (B : Nat) (c : Code) (pre : List α) (W : World), w.heap.size + 2 ≤ B → pre <+: xs → Ix B c pre W → W.heap[w.heap.size]? = some (.deferred (some [])) → c.wpIn F n P Q { a with defers := { target := .collected w.heap.size, args := #[] } :: a.defers } W) :
    (Code.rangeFunc g ps assign body).wpIn F n P Q a w := by
  refine wpIn_rangeFunc fun fn hfn => ?_
  rw [hro]
  obtain ⟨rec, hrec⟩ : ∃ rec : LoopState → Option Code → Loop, rec = fun st pe => { state := st, pending := pe, fn, tmps := a.tmps, params := ps, assign, body, defers := w.heap.size } := ⟨_, rfl⟩
  obtain ⟨V, hV⟩ : ∃ V, (w.alloc (.deferred (some []))).alloc (.loop (rec .ready none)) = V := ⟨_, rfl⟩
  have hVe : Ev w V := by rw [← hV]; exact Ev.alloc (Ev.alloc (Ev.refl _) _) _
  have hal := alloc2 w (.deferred (some [])) (.loop (rec .ready none))
  rw [hV] at hal
  obtain ⟨hD, hL, hVs⟩ := hal
  refine ⟨w.heap.size + 1, [{ target := .collected w.heap.size, args := #[] }], V, { target := .fn (.func gf) lb, args := #[.func (.yield (w.heap.size + 1)) #[] #[]] }, V, gf,
    #[.func (.yield (w.heap.size + 1)) #[] #[]] ++ lb, V, ?_, ?_, ?_, ?_, fun _ => h1, ?_⟩
  · rw [← hV, hrec]; exact run_enterLoop_outer _ _ _ _ _
  · simp only [resolve, hg]
    simp [go_sem]
  · intro f' hf'; simp [Target.leads] at hf'; subst hf'; exact hFg
  · simp [invoke, go_sem, eg]
  have out : ∀ {B : Nat} {X Y : World}, V.heap.size ≤ B → Bar V.heap.size B X Y → Bar w.heap.size B X Y := fun _ h => h.wider (by omega)
  have keep : ∀ {B k : Nat} {X Y : World} {o : Obj}, Bar V.heap.size B X Y → k < V.heap.size → X.heap[k]? = some o → Y.heap[k]? = some o := fun h hk ho => (h.block _ (Array.getElem?_eq_some_iff.1 ho).1 (by omega)).trans ho
  refine (hseq (w.heap.size + 1)
    (fun B pre W => I B pre W ∧ W.heap[w.heap.size + 1]? = some (.loop (rec .ready none)) ∧ W.heap[w.heap.size]? = some (.deferred (some [])))
    (fun B pre W => ∃ c, Ix B c pre W ∧ W.heap[w.heap.size + 1]? = some (.loop (rec .done (some c))) ∧ W.heap[w.heap.size]? = some (.deferred (some [])))
    V (hb0.trans (Below.evr hVe hb0.size))
    (fun B s X Y hB ⟨h, hl, hd⟩ hb => ⟨hI B s X Y (by omega) h (out hB hb), keep hb (by omega) hl, keep hb (by omega) hd⟩)
    (fun B s X Y hB ⟨c, h, hl, hd⟩ hb => ⟨c, hIx c B s X Y (by omega) h (out hB hb), keep hb (by omega) hl, keep hb (by omega) hd⟩)
    ?_ (fun W' hW' => ⟨h0 W' (hVe.trans hW'), hW'.heap hL, hW'.heap hD⟩)).mono ?_
  · rintro B pre x av W hB hBW ⟨hi, hl, hd⟩ hhx hpre
    rw [hVs] at hhx ⊢
    have hy := run_yield (P := P) (args := av) hl (by rw [hrec]; exact hps _ _ _ _ _ hhx)
    rw [hrec] at hy
    refine ⟨fn, _, assign, body, hy, roundIn_of_wpIn hfn (hassign _ B pre x av W _ (by omega) hBW hi hhx ?_)⟩
    intro a' Wa hEa hax
    have hia := hI B pre W Wa (by omega) hi (Bar.ev hEa)
    have hla := hEa.heap hl
    have hda := hEa.heap hd
    have hlt := (Array.getElem?_eq_some_iff.1 hla).1
    refine ⟨_, run_beginRound hla (by rw [hrec]), ?_⟩
    generalize hWb : Wa.putObj (w.heap.size + 1) (.loop { rec .ready none with state := .busy }) = Wb
    have hbb : Bar w.heap.size B Wa Wb := by rw [← hWb]; exact Bar.putObj _ (by omega) (by omega)
    have hlb : Wb.heap[w.heap.size + 1]? = some (.loop { rec .ready none with state := .busy }) := by rw [← hWb]; exact World.putObj_heap_same hlt
    have hdb : Wb.heap[w.heap.size]? = some (.deferred (some [])) := by rw [← hWb]; exact (World.putObj_heap_other (by omega)).trans hda
    have hsb : Wb.heap.size = Wa.heap.size := by rw [← hWb]; simp
    have hoth : ∀ k, k ≠ w.heap.size + 1 → Wb.heap[k]? = Wa.heap[k]? := fun k hk => by rw [← hWb]; exact World.putObj_heap_other hk
    refine wpIn_mono (hbody _ B pre x av a' Wb (by omega) (by have := hEa.size; omega) (hI B pre _ _ (by omega) hia hbb) (hAx a' B x _ _ (by omega) hax hbb) (hHx _ _ _ _ _ _ hhx (by have := hEa.size; omega) ⟨_, hl⟩ (fun k h1 h2 => (hoth k h1).trans (hEa.block k h2))) hpre) ?_
    have fin : ∀ (R' : Nat → Prop) (jump : Option Code) (W3 : World), Kept R' w.heap.size B Wb W3 → ∃ W4, W4 = W3.putObj (w.heap.size + 1) (.loop (rec (if jump.isNone then .ready else .done) jump)) ∧
        (Instr.endRound (w.heap.size + 1) jump).run P W3 = .ok (.bool jump.isNone) W4 ∧ Bar w.heap.size B W3 W4 ∧
        W4.heap[w.heap.size + 1]? = some (.loop (rec (if jump.isNone then .ready else .done) jump)) ∧ W4.heap[w.heap.size]? = some (.deferred (some [])) := fun R' jump W3 hk3 => by
      have hl3 : W3.heap[w.heap.size + 1]? = some (.loop { rec .ready none with state := .busy }) := (hk3.block _ (by omega) (.inr (by omega))).trans hlb
      have hd3 : W3.heap[w.heap.size]? = some (.deferred (some [])) := (hk3.block _ (by omega) (.inr (by omega))).trans hdb
      have he := run_endRound (P := P) jump hl3
      rw [hrec] at he ⊢
      exact ⟨_, rfl, he, Bar.putObj _ (by omega) (by omega), World.putObj_heap_same (Array.getElem?_eq_some_iff.1 hl3).1, (World.putObj_heap_other (by omega)).trans hd3⟩
    rintro e a3 W3 hp
    cases e with
    | normal =>
      obtain ⟨hk3, hi3⟩ := hp
      obtain ⟨W4, hW4, hr, hb4, hl4, hd4⟩ := fin R none W3 hk3
      refine ⟨_, _, hr, .inl ⟨rfl, ⟨hI _ _ _ _ (by omega) hi3 hb4, hl4, hd4⟩, ⟨?_, fun k hk hor => ?_⟩⟩⟩
      · have := hb4.size; have := hk3.size; have := hEa.size; omega
      · have hk1 : k ≠ w.heap.size + 1 := by
          rcases hor with hr | hr
          · have := hR k hr; omega
          · omega
        have hkk : R k ∨ (w.heap.size ≤ k ∧ k < B) := by
          rcases hor with hr | hr
          · exact .inl hr
          · exact .inr (by omega)
        rw [hW4, World.putObj_heap_other hk1, hk3.block k (by have := hEa.size; omega) hkk, hoth k hk1]
        exact hEa.block k hk
    | ret =>
      obtain ⟨hk3, hi3⟩ := hp
      obtain ⟨W4, hW4, hr, hb4, hl4, hd4⟩ := fin _ (some .ret) W3 hk3
      refine ⟨_, _, hr, .inr ⟨rfl, ⟨.ret, hIx _ _ _ _ _ (by omega) hi3 hb4, hl4, hd4⟩, ⟨by have := hb4.size; have := hk3.size; have := hEa.size; omega, fun k hk hor => ?_⟩⟩⟩
      have hk2 : w.heap.size + 2 ≤ k ∧ k < B := by
        rcases hor with hf | h
        · exact hf.elim
        · exact h
      rw [hW4, World.putObj_heap_other (by omega), hk3.block k (by have := hEa.size; omega) (.inr (by omega)), hoth k (by omega)]
      exact hEa.block k hk
    | exit id =>
      obtain ⟨hk3, hi3⟩ := hp
      obtain ⟨W4, hW4, hr, hb4, hl4, hd4⟩ := fin _ (some (.exit id)) W3 hk3
      refine ⟨_, _, hr, .inr ⟨rfl, ⟨(.exit id), hIx _ _ _ _ _ (by omega) hi3 hb4, hl4, hd4⟩, ⟨by have := hb4.size; have := hk3.size; have := hEa.size; omega, fun k hk hor => ?_⟩⟩⟩
      have hk2 : w.heap.size + 2 ≤ k ∧ k < B := by
        rcases hor with hf | h
        · exact hf.elim
        · exact h
      rw [hW4, World.putObj_heap_other (by omega), hk3.block k (by have := hEa.size; omega) (.inr (by omega)), hoth k (by omega)]
      exact hEa.block k hk
    | goto t =>
      obtain ⟨hk3, hi3⟩ := hp
      obtain ⟨W4, hW4, hr, hb4, hl4, hd4⟩ := fin _ (some (.goto t)) W3 hk3
      refine ⟨_, _, hr, .inr ⟨rfl, ⟨(.goto t), hIx _ _ _ _ _ (by omega) hi3 hb4, hl4, hd4⟩, ⟨by have := hb4.size; have := hk3.size; have := hEa.size; omega, fun k hk hor => ?_⟩⟩⟩
      have hk2 : w.heap.size + 2 ≤ k ∧ k < B := by
        rcases hor with hf | h
        · exact hf.elim
        · exact h
      rw [hW4, World.putObj_heap_other (by omega), hk3.block k (by have := hEa.size; omega) (.inr (by omega)), hoth k (by omega)]
      exact hEa.block k hk
    | panic ch => exact hp.elim
    | outgrown => exact hp.elim
  · rintro e W2 ⟨⟨v, rfl⟩, B, hB, ⟨hi, hl, hd⟩ | ⟨pre, hpre, c, hi, hl, hd⟩⟩
    · exact ⟨none, _, by have := run_endLoop (P := P) hl (by rw [hrec]; simp); rw [hrec] at this; exact this, hdone B _ (by omega) (hI _ _ _ _ (by omega) hi (Bar.putObj _ (by omega) (by omega))) ((World.putObj_heap_other (by omega)).trans hd)⟩
    · exact ⟨some c, _, by have := run_endLoop (P := P) hl (by rw [hrec]; simp); rw [hrec] at this; exact this, hstop B c pre _ (by omega) hpre (hIx _ _ _ _ _ (by omega) hi (Bar.putObj _ (by omega) (by omega))) ((World.putObj_heap_other (by omega)).trans hd)⟩


end Go.Proofs.Ytffbkbcjddigdaa
