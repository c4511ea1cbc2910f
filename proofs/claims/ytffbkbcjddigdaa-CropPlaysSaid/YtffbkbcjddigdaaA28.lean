import Derived.Test.YtffbkbcjddigdaaA27
set_option linter.unusedSimpArgs false
set_option linter.unusedVariables false
namespace Go.Proofs.Ytffbkbcjddigdaa
open Go.RowKit Go.Shelf

/-- What is left of a list without the things at some places; the first has the number k. -/
def M.woK {α : Type} (ps : List Int) : List α → Nat → List α
  | [], _ => []
  | x :: r, k => if (k : Int) ∈ ps then M.woK ps r (k + 1) else x :: M.woK ps r (k + 1)
def M.without {α : Type} (ls : List α) (ps : List Int) : List α := M.woK ps ls 0
theorem M.woK_mem {α : Type} (ps : List Int) : ∀ (ls : List α) (k : Nat) (x : α), x ∈ M.woK ps ls k → x ∈ ls
  | [], _, _, h => h
  | y :: r, k, x, h => by
    unfold M.woK at h
    split at h
    · exact List.mem_cons_of_mem _ (M.woK_mem ps r _ x h)
    · rcases List.mem_cons.1 h with rfl | h
      · simp
      · exact List.mem_cons_of_mem _ (M.woK_mem ps r _ x h)
theorem M.woK_len {α : Type} (ps : List Int) : ∀ (ls : List α) (k : Nat), (M.woK ps ls k).length ≤ ls.length
  | [], _ => Nat.le_refl _
  | y :: r, k => by
    unfold M.woK
    have := M.woK_len ps r (k + 1)
    split <;> simp <;> omega
theorem infoLk : (Try.prog.info? 73).map (fun i => (i.zero, i.size, i.bytes)) = some (some (.agg #[.int .i64 0, .int .i64 0, .int .i64 0]), 3, 24) := by kernel_rfl
theorem lkc_len (ys : List M.Lk) : ∀ y ∈ ys, (lkc y).length = 3 := fun _ _ => rfl

set_option maxRecDepth 100000 in
set_option maxHeartbeats 4000000 in
theorem without_c (L P : Option Addr) (n c pn pc : Nat) (ls : List M.Lk) (ps : List Int) (hn : n ≤ 1000) (w : World) (hs : Sl lkc 3 w w.heap.size L n c ls) (hp : Sl ics 1 w w.heap.size P pn pc ps) :
    Calls Try.prog 98 #[.slice L n c, .slice P pn pc] w fun e w' => (∃ B m d, e = .returned (.slice B m d) ∧ Sl lkc 3 w' w'.heap.size B m d (M.without ls ps)) ∧ Ev w w' := by
  obtain ⟨i0, hi0, hz0, hz1, hz2⟩ := info_parts infoLk
  have hsm := hs.small
  have HCN := hid (fun (v : Int) W (hE : Ev w W) => contains_c P pn pc ps v W (hp.ev hE))
  clear hp
  go_enter Try.func98, Try.ntmps98
  go_wp2
  go_loopw [5, 10] (fun v i wr => ∃ k : Nat, ∃ V : Option Addr, ∃ m d : Nat, ∃ ac : List M.Lk, v = .slice V m d ∧ i = .int .i64 k ∧ k ≤ n ∧ m ≤ k ∧ Ev w wr ∧ wr.ownsRow w.heap.size 73 3 (.slice V m d) m (ac.flatMap lkc) ∧ Hid (ac ++ M.woK ps (ls.drop k) k = M.without ls ps)) (fun _ i _ => n - (intOf i).toNat)
  case atStart => exact ⟨0, none, 0, 0, [], rfl, rfl, by omega, by omega, Ev.refl _, World.ownsRow_nil _ _ _ _, hid rfl⟩
  case round =>
    obtain ⟨k, V, m, d, ac, rfl, rfl, hk, hm, hB, hown, hall⟩ := hrel
    have hBs := hB.size
    by_cases hlt : k < n
    · obtain ⟨b, off, x, rfl, hb, hx, hd, hcc⟩ := hs.at_ hB hlt
      have e0 := hcc 0 _ rfl
      have e1 := hcc 1 _ rfl
      have e2 := hcc 2 _ rfl
      simp only [Nat.add_zero] at e0
      have hcap := hs.cap
      have HA := hid (show ac ++ (if (k : Int) ∈ ps then M.woK ps (ls.drop (k + 1)) (k + 1) else x :: M.woK ps (ls.drop (k + 1)) (k + 1)) = M.without ls ps by rw [← hall.out, hd]; rfl)
      have HCK := hid (HCN.out (k : Int))
      have HOW := hid hown
      have hE2 : Ev w (wr.alloc (.cells #[.int .i64 x.wk, .int .i64 x.ct.lo, .int .i64 x.ct.hi] 73)) := Ev.alloc hB _
      have k0 : (0 : Int) ≤ k := by omega
      clear hx hd hcc hown hall
      cases hin : decide ((k : Int) ∈ ps) with
      | true =>
        have hin' : (k : Int) ∈ ps := of_decide_eq_true hin
        have HC := hid (fun W hE => by have := HCK.out W hE; rw [hin] at this; exact this)
        have HA2 := hid (by have := HA.out; rw [if_pos hin'] at this; exact this)
        clear hin hin'
        go_wp2_with (go_at_call 88; with_reducible refine (HC.out _ hE2).mono ?_; rintro e w1 ⟨rfl, hb1⟩)
        exact ⟨⟨k + 1, V, m, d, ac, rfl, by go_num, by omega, by omega, hE2.trans hb1, (HOW.out.ev (Ev.alloc (Ev.refl _) _)).ev hb1, HA2⟩, by simp [intOf]; omega⟩
      | false =>
        have hin' : ¬ (k : Int) ∈ ps := of_decide_eq_false hin
        have HC := hid (fun W hE => by have := HCK.out W hE; rw [hin] at this; exact this)
        have HA2 := hid (show (ac ++ [x]) ++ M.woK ps (ls.drop (k + 1)) (k + 1) = M.without ls ps by have := HA.out; rw [if_neg hin'] at this; rw [List.append_assoc]; exact this)
        clear hin hin'
        go_wp2_with (first | (go_at_call 88; ((with_reducible refine (HC.out _ hE2).mono ?_); rintro e w1 ⟨rfl, hb1⟩; obtain ⟨x0, x1, x2⟩ := cells3 (hb1.heap (alloc1 wr (.cells #[.int .i64 x.wk, .int .i64 x.ct.lo, .int .i64 x.ct.hi] 73)).1); have hE3 : Ev wr w1 := Ev.trans (Ev.alloc (Ev.refl _) _) hb1)) | (at_builtin; refine wpList_append_own_at _ rfl (.tmp 19) (.tmp 21) 36 rfl w.heap.size 73 i0 _ 3 24 Try.underlying36 hi0 hz0 hz1 hz2 rfl (by decide) _ m (ac.flatMap lkc) rfl ((HOW.out.ev hE3).alloc _) ⟨w1.heap.size, 0, none⟩ 1 1 [.int .i64 x.wk, .int .i64 x.ct.lo, .int .i64 x.ct.hi] rfl rfl (news_in (alloc1 w1 _).1) (by simp [Value.oneCell']) (by unfold maxLen; omega) (by omega) (by have := hE3.size; simp; omega) ?_; intro v' w3 hown' hgrow _ _; obtain ⟨V', d', rfl⟩ := own_form hown'; have HO3 := hid hown'; have HE3 := hid (Ev.grown ((hB.trans hE3).alloc (.cells #[.int .i64 x.wk, .int .i64 x.ct.lo, .int .i64 x.ct.hi] 73)) hgrow (fun q e => (HOW.out.lt q e).1) : Ev w w3); clear hown' hgrow))
        exact ⟨⟨k + 1, V', m + 1, d', ac ++ [x], rfl, by go_num, by omega, by omega, HE3.out, by rw [List.flatMap_append]; exact HO3.out, HA2⟩, by simp [intOf]; omega⟩
    · have H := hid (hs.done hlt)
      have HOW := hid hown
      clear hown
      go_wp2
      go_ret
      refine ⟨⟨V, m, d, rfl, ?_⟩, hB⟩
      have h := hall.out
      rw [H.out, M.woK, List.append_nil] at h
      rw [← h]
      exact sl_own (by decide) (lkc_len _) (by omega) HOW.out

/-- Some looks can be left out. -/
def M.spares (f : M.Cf) (ps : List Int) : Bool := M.fit f (M.without f.looks ps)

set_option maxRecDepth 100000 in
set_option maxHeartbeats 2000000 in
theorem spares_c (f : M.Cf) (Ag Aw Ab Ac Al : Option Addr) (ng cg nw cw nb cb nc cc nl cl : Nat) (At As : Option Addr) (nt ct ns cs p mb : Nat) (ts : List M.Tr) (hlk : ∀ l ∈ f.looks, 0 ≤ l.wk ∧ l.wk ≤ 9) (hl5 : nl ≤ 5) (P : Option Addr) (pn pc : Nat) (ps : List Int) (w : World) (hw : Wc w f Ag Aw Ab Ac Al ng cg nw cw nb cb nc cc nl cl At As nt ct ns cs p mb ts (M.stands f)) (hp : Sl ics 1 w w.heap.size P pn pc ps) :
    Calls Try.prog 70 #[.pointer (some ⟨p, 0, none⟩), .slice P pn pc] w fun e w' => e = .returned (.bool (M.spares f ps)) ∧ Ev w w' := by
  obtain ⟨k0, k1, k2, k3, k4, k5, k6, k7, k8, k9, k10, k11⟩ := cells12 hw.hd
  have HWO := hid (without_c Al P nl cl pn pc f.looks ps (by omega) w hw.fd.l hp)
  have HFT := hid (fun (B : Option Addr) (m d : Nat) W (hE : Ev w W) (h : Sl lkc 3 W W.heap.size B m d (M.without f.looks ps)) => fit_c f Ag Aw Ab Ac Al ng cg nw cw nb cb nc cc nl cl At As nt ct ns cs p mb ts B m d (M.without f.looks ps) (fun l hl => hlk l (M.woK_mem ps f.looks 0 l hl)) W (hw.ev hE) h)
  have HD := hid (show M.spares f ps = M.fit f (M.without f.looks ps) from rfl)
  generalize M.fit f (M.without f.looks ps) = r at HFT HD
  clear hlk
  go_enter Try.func70, Try.ntmps70
  go_wp2_with (first | (go_at_call 98; ((with_reducible refine HWO.out.mono ?_); rintro e w1 ⟨⟨B, m, d, rfl, hsl⟩, hb1⟩)) | (go_at_call 74; ((with_reducible refine (HFT.out _ _ _ _ hb1 hsl).mono ?_); rintro e w2 ⟨rfl, hb2⟩)))
  go_ret
  exact ⟨by rw [HD.out]; rfl, hb1.trans hb2⟩

end Go.Proofs.Ytffbkbcjddigdaa
