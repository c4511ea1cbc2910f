import Derived.Test.YtcecmphdmpeibaaL43
set_option linter.unusedSimpArgs false
set_option linter.unusedVariables false
namespace Go.Proofs.Ytcecmphdmpeibaa
open Go.RowKit

set_option maxRecDepth 100000 in
set_option maxHeartbeats 8000000 in
theorem weedNames_c (w : World) : Calls Try.prog 9 #[] w fun e w' => e = .returned (.bool true) ∧ Ev w w' := by
  obtain ⟨zs, hzs⟩ : ∃ zs, zs = Array.replicate 30 (Value.int .i64 0) := ⟨_, rfl⟩
  have hmk : ∀ wx : World, (Instr.makeSlice 34 (.int .i64 6) (.int .i64 6)).run Try.prog wx = .ok (.slice (some ⟨wx.heap.size, 0, none⟩) 6 6) (wx.alloc (.cells zs 73)) := by rw [hzs]; exact make34
  have HZS := hid hzs
  clear hzs
  go_enter Try.func9, Try.ntmps9
  have hG := Ev.refl w
  go_upto_region 2 with (go_at_call 48; ((with_reducible refine (four0_c _).mono ?_); rintro e w1 ⟨⟨B, d, rfl, hs⟩, hb⟩; replace hG := hG.trans hb; (try replace hW := hW.trans hb); (try replace hA := hA.trans hb); (try replace hS := hS.trans hb); clear hb; have HS := hid hs; clear hs))
  generalize hW1 : World.alloc w1 _ = W1
  have hE1 : Ev w1 W1 := by rw [← hW1]; exact Ev.alloc (Ev.refl _) _
  have HLo := hid (show W1.heap[w1.heap.size]? = some (.cells #[.int .i64 4, .int .i64 2, .int .i64 0, .int .i64 0, .slice B 2 d] 36 (0, 0)) by rw [← hW1]; exact (alloc1 w1 _).1)
  have hwl := hG.size
  replace hG := hG.trans hE1
  have hS := hE1
  clear hW1 hE1
  go_upto_region 3 with (go_at_call 49; ((with_reducible refine (between_c 0 1 _).mono ?_); rintro e w6 ⟨rfl, hb⟩; have hq := hb.heap HLo.out; obtain ⟨g0, g1, g2, g3, g4⟩ := cells5 hq; obtain ⟨f0, f1, f2, f3, f4⟩ := frz5 hq; have HL2 := hid hq; clear hq; replace hG := hG.trans hb; (try replace hW := hW.trans hb); (try replace hA := hA.trans hb); (try replace hS := hS.trans hb); clear hb))
  generalize hW3 : World.setCell _ _ _ = W3
  have HL3 := hid (show W3.heap[w1.heap.size]? = some (.cells #[.int .i64 4, .int .i64 2, .int .i64 0, .int .i64 1, .slice B 2 d] 36 (0, 0)) by rw [← hW3, set_heap_same (set_heap_same HL2.out)]; rfl)
  have hG3 : Ev w W3 := by rw [← hW3]; exact Ev.setCell (Ev.setCell hG (by simp; omega) _) (by simp; omega) _
  have hS3 : Ev w1 W3 := by rw [← hW3]; exact Ev.setCell (Ev.setCell hS (by simp) _) (by simp) _
  clear hW3 hG hS g0 g1 g2 g3 g4 f0 f1 f2 f3 f4 HL2 HLo
  have hG := hG3
  have hS := hS3
  clear hG3 hS3
  obtain ⟨g0, g1, g2, g3, g4⟩ := cells5 HL3.out
  go_upto_region 4 with (go_at_call 32; ((with_reducible refine (nm_who _ _ _ (HS.out.ev hS)).mono ?_); rintro e w7 ⟨⟨Bw, dw, rfl, hs⟩, hb⟩; replace hG := hG.trans hb; (try replace hW := hW.trans hb); (try replace hA := hA.trans hb); (try replace hS := hS.trans hb); clear hb; have HW := hid hs; clear hs HS hS; have hW := Ev.refl w7))
  clear g0 g1 g2 g3 g4 HL3 hwl
  go_upto_region 7 with (first | (go_at_call 48; ((with_reducible refine (four0_c _).mono ?_); rintro e w1 ⟨⟨B, d, rfl, hs⟩, hb⟩; replace hG := hG.trans hb; (try replace hW := hW.trans hb); (try replace hA := hA.trans hb); (try replace hS := hS.trans hb); clear hb; have HS := hid hs; clear hs)) | (go_at_call 36; ((with_reducible refine (nm_ask _ _ _ HS.out).mono ?_); rintro e w8 ⟨⟨Ba, da, rfl, hs⟩, hb⟩; replace hG := hG.trans hb; (try replace hW := hW.trans hb); (try replace hA := hA.trans hb); (try replace hS := hS.trans hb); clear hb; have HA := hid hs; clear hs HS; have hA := Ev.refl w8)) | (go_at_call 50; ((with_reducible refine (two_c _).mono ?_); rintro e w4 ⟨rfl, hb⟩; replace hG := hG.trans hb; (try replace hW := hW.trans hb); (try replace hA := hA.trans hb); (try replace hS := hS.trans hb); clear hb)) | (go_at_call 48; ((with_reducible refine (four1_c _).mono ?_); rintro e w2 ⟨⟨B, d, rfl, hs⟩, hb⟩; replace hG := hG.trans hb; (try replace hW := hW.trans hb); (try replace hA := hA.trans hb); (try replace hS := hS.trans hb); clear hb; have HS := hid hs; clear hs)) | (go_at_call 41; ((with_reducible refine (nm_next _ _ _ HS.out).mono ?_); rintro e w9 ⟨rfl, hb⟩; replace hG := hG.trans hb; (try replace hW := hW.trans hb); (try replace hA := hA.trans hb); (try replace hS := hS.trans hb); clear hb; clear HS)) | (go_at_call 44; ((with_reducible refine (nm_leave _ _ _ HS.out).mono ?_); rintro e w10 ⟨⟨Bl, dl, rfl⟩, hb⟩; replace hG := hG.trans hb; (try replace hW := hW.trans hb); (try replace hA := hA.trans hb); (try replace hS := hS.trans hb); clear hb; clear HS)))
  go_upto_region 8 with fail
  generalize hW4 : World.alloc w10 _ = W4
  have hE4 : Ev w10 W4 := by rw [← hW4]; exact Ev.alloc (Ev.refl _) _
  have HK := hid (show W4.heap[w10.heap.size]? = some (.cells #[.int .i64 3, .int .i64 1, .int .i64 0, .int .i64 0, .slice none 0 0] 36 (0, 0)) by rw [← hW4]; exact (alloc1 w10 _).1)
  replace hG := hG.trans hE4
  replace hW := hW.trans hE4
  replace hA := hA.trans hE4
  clear hW4 hE4
  obtain ⟨g0, g1, g2, g3, g4⟩ := cells5 HK.out
  go_upto_region 9 with (go_at_call 41; ((with_reducible refine (nm_known _).mono ?_); rintro e w11 ⟨rfl, hb⟩; replace hG := hG.trans hb; (try replace hW := hW.trans hb); (try replace hA := hA.trans hb); (try replace hS := hS.trans hb); clear hb))
  clear g0 g1 g2 g3 g4 HK
  go_upto_region 11 with (first | (go_at_call 34; ((with_reducible refine (same3_c _ _ _ _ HW.out hW).mono ?_); rintro e w12 ⟨rfl, hb⟩; replace hG := hG.trans hb; (try replace hW := hW.trans hb); (try replace hA := hA.trans hb); (try replace hS := hS.trans hb); clear hb)) | (go_at_call 34; ((with_reducible refine (same4_c _ _ _ _ HA.out hA).mono ?_); rintro e w13 ⟨rfl, hb⟩; replace hG := hG.trans hb; (try replace hW := hW.trans hb); (try replace hA := hA.trans hb); (try replace hS := hS.trans hb); clear hb)) | (go_at_call 48; ((with_reducible refine (four0_c _).mono ?_); rintro e w1 ⟨⟨B, d, rfl, hs⟩, hb⟩; replace hG := hG.trans hb; (try replace hW := hW.trans hb); (try replace hA := hA.trans hb); (try replace hS := hS.trans hb); clear hb; have HS := hid hs; clear hs)) | (go_at_call 50; ((with_reducible refine (two_c _).mono ?_); rintro e w4 ⟨rfl, hb⟩; replace hG := hG.trans hb; (try replace hW := hW.trans hb); (try replace hA := hA.trans hb); (try replace hS := hS.trans hb); clear hb)) | (go_at_call 51; ((with_reducible refine (bad_c _).mono ?_); rintro e w5 ⟨rfl, hb⟩; replace hG := hG.trans hb; (try replace hW := hW.trans hb); (try replace hA := hA.trans hb); (try replace hS := hS.trans hb); clear hb)) | (go_at_call 48; ((with_reducible refine (four1_c _).mono ?_); rintro e w2 ⟨⟨B, d, rfl, hs⟩, hb⟩; replace hG := hG.trans hb; (try replace hW := hW.trans hb); (try replace hA := hA.trans hb); (try replace hS := hS.trans hb); clear hb; have HS := hid hs; clear hs)) | (go_at_call 48; ((with_reducible refine (four2_c _).mono ?_); rintro e w3 ⟨⟨B, d, rfl, hs⟩, hb⟩; replace hG := hG.trans hb; (try replace hW := hW.trans hb); (try replace hA := hA.trans hb); (try replace hS := hS.trans hb); clear hb; have HS := hid hs; clear hs)) | (go_at_call 25; ((with_reducible refine (nm_pt0 _ _ _ HS.out).mono ?_); rintro e w14 ⟨rfl, hb⟩; replace hG := hG.trans hb; (try replace hW := hW.trans hb); (try replace hA := hA.trans hb); (try replace hS := hS.trans hb); clear hb; clear HS)) | (go_at_call 25; ((with_reducible refine (nm_pt1 _ _ _ HS.out).mono ?_); rintro e w14 ⟨rfl, hb⟩; replace hG := hG.trans hb; (try replace hW := hW.trans hb); (try replace hA := hA.trans hb); (try replace hS := hS.trans hb); clear hb; clear HS)) | (go_at_call 25; ((with_reducible refine (nm_pt2 _ _ _ HS.out).mono ?_); rintro e w14 ⟨rfl, hb⟩; replace hG := hG.trans hb; (try replace hW := hW.trans hb); (try replace hA := hA.trans hb); (try replace hS := hS.trans hb); clear hb; clear HS)) | (go_at_call 25; ((with_reducible refine (nm_pt3 _ _ _ HS.out).mono ?_); rintro e w14 ⟨rfl, hb⟩; replace hG := hG.trans hb; (try replace hW := hW.trans hb); (try replace hA := hA.trans hb); (try replace hS := hS.trans hb); clear hb; clear HS)) | (go_at_call 37; ((with_reducible refine (nm_pa0 _ _ _ HS.out).mono ?_); rintro e w15 ⟨rfl, hb⟩; replace hG := hG.trans hb; (try replace hW := hW.trans hb); (try replace hA := hA.trans hb); (try replace hS := hS.trans hb); clear hb; clear HS)) | (go_at_call 37; ((with_reducible refine (nm_pa1 _ _ _ HS.out).mono ?_); rintro e w15 ⟨rfl, hb⟩; replace hG := hG.trans hb; (try replace hW := hW.trans hb); (try replace hA := hA.trans hb); (try replace hS := hS.trans hb); clear hb; clear HS)) | (go_at_call 37; ((with_reducible refine (nm_pa2 _ _ _ HS.out).mono ?_); rintro e w15 ⟨rfl, hb⟩; replace hG := hG.trans hb; (try replace hW := hW.trans hb); (try replace hA := hA.trans hb); (try replace hS := hS.trans hb); clear hb; clear HS)) | (go_at_call 37; ((with_reducible refine (nm_pa3 _ _ _ HS.out).mono ?_); rintro e w15 ⟨rfl, hb⟩; replace hG := hG.trans hb; (try replace hW := hW.trans hb); (try replace hA := hA.trans hb); (try replace hS := hS.trans hb); clear hb; clear HS)) | (go_at_call 37; ((with_reducible refine (nm_pa4 _ _ _ HS.out).mono ?_); rintro e w15 ⟨rfl, hb⟩; replace hG := hG.trans hb; (try replace hW := hW.trans hb); (try replace hA := hA.trans hb); (try replace hS := hS.trans hb); clear hb; clear HS)))
  clear HW HA hW hA
  go_upto_region 17 with (first | (go_at_call 51; ((with_reducible refine (bad_c _).mono ?_); rintro e w5 ⟨rfl, hb⟩; replace hG := hG.trans hb; (try replace hW := hW.trans hb); (try replace hA := hA.trans hb); (try replace hS := hS.trans hb); clear hb)) | (go_at_call 48; ((with_reducible refine (four2_c _).mono ?_); rintro e w3 ⟨⟨B, d, rfl, hs⟩, hb⟩; replace hG := hG.trans hb; (try replace hW := hW.trans hb); (try replace hA := hA.trans hb); (try replace hS := hS.trans hb); clear hb; have HS := hid hs; clear hs)) | (go_at_call 48; ((with_reducible refine (four0_c _).mono ?_); rintro e w1 ⟨⟨B, d, rfl, hs⟩, hb⟩; replace hG := hG.trans hb; (try replace hW := hW.trans hb); (try replace hA := hA.trans hb); (try replace hS := hS.trans hb); clear hb; have HS := hid hs; clear hs)) | (go_at_call 32; ((with_reducible refine (nm_who4 _ _ _ HS.out).mono ?_); rintro e w16 ⟨rfl, hb⟩; replace hG := hG.trans hb; (try replace hW := hW.trans hb); (try replace hA := hA.trans hb); (try replace hS := hS.trans hb); clear hb; clear HS)) | (go_at_call 32; ((with_reducible refine (nm_who0 _ _ _ HS.out).mono ?_); rintro e w17 ⟨rfl, hb⟩; replace hG := hG.trans hb; (try replace hW := hW.trans hb); (try replace hA := hA.trans hb); (try replace hS := hS.trans hb); clear hb; clear HS)) | (go_at_call 36; ((with_reducible refine (nm_ask2 _ _ _ HS.out).mono ?_); rintro e w18 ⟨rfl, hb⟩; replace hG := hG.trans hb; (try replace hW := hW.trans hb); (try replace hA := hA.trans hb); (try replace hS := hS.trans hb); clear hb; clear HS)) | (go_at_call 41; ((with_reducible refine (nm_next1 _ _ _ HS.out).mono ?_); rintro e w19 ⟨rfl, hb⟩; replace hG := hG.trans hb; (try replace hW := hW.trans hb); (try replace hA := hA.trans hb); (try replace hS := hS.trans hb); clear hb; clear HS)) | (go_at_call 43; ((with_reducible refine (nm_first _ _ _ HS.out).mono ?_); rintro e w20 ⟨rfl, hb⟩; replace hG := hG.trans hb; (try replace hW := hW.trans hb); (try replace hA := hA.trans hb); (try replace hS := hS.trans hb); clear hb; clear HS)) | (go_at_call 28; ((with_reducible refine (nm_done _ _ _ HS.out).mono ?_); rintro e v0 ⟨rfl, hb⟩; replace hG := hG.trans hb; (try replace hW := hW.trans hb); (try replace hA := hA.trans hb); (try replace hS := hS.trans hb); clear hb; clear HS)))
  have k1 : True := trivial
  have k2 : True := trivial
  have k3 : True := trivial
  have k4 : True := trivial
  have k5 : True := trivial
  have k6 : True := trivial
  have k7 : True := trivial
  have k8 : True := trivial
  go_upto_region 18 with (first | (clear k1; go_at_call 48; ((with_reducible refine (four_f _).mono ?_); rintro e v1 ⟨⟨b1, d1, c1, rfl, hlt1, hd1, hg1, ht1⟩, hb1⟩; have HG1 := hid hg1; clear hg1)) | (clear k2; go_at_call 48; ((with_reducible refine (four_f _).mono ?_); rintro e v2 ⟨⟨b2, d2, c2, rfl, hlt2, hd2, hg2, ht2⟩, hb2⟩; have HG2 := hid hg2; clear hg2)) | (clear k3; go_at_call 48; ((with_reducible refine (four_f _).mono ?_); rintro e v3 ⟨⟨b3, d3, c3, rfl, hlt3, hd3, hg3, ht3⟩, hb3⟩; have HG3 := hid hg3; clear hg3)) | (clear k4; go_at_call 48; ((with_reducible refine (four_f _).mono ?_); rintro e v4 ⟨⟨b4, d4, c4, rfl, hlt4, hd4, hg4, ht4⟩, hb4⟩; have HG4 := hid hg4; clear hg4)) | (clear k5; go_at_call 48; ((with_reducible refine (four_f _).mono ?_); rintro e v5 ⟨⟨b5, d5, c5, rfl, hlt5, hd5, hg5, ht5⟩, hb5⟩; have HG5 := hid hg5; clear hg5)) | (clear k6; go_at_call 48; ((with_reducible refine (four_f _).mono ?_); rintro e v6 ⟨⟨b6, d6, c6, rfl, hlt6, hd6, hg6, ht6⟩, hb6⟩; have HG6 := hid hg6; clear hg6)) | (clear k7; go_at_call 48; ((with_reducible refine (four_f _).mono ?_); rintro e v7 ⟨⟨b7, d7, c7, rfl, hlt7, hd7, hg7, ht7⟩, hb7⟩; have HG7 := hid hg7; clear hg7)) | (clear k8; go_at_call 48; ((with_reducible refine (four_f _).mono ?_); rintro e v8 ⟨⟨b8, d8, c8, rfl, hlt8, hd8, hg8, ht8⟩, hb8⟩; have HG8 := hid hg8; clear hg8)))
  generalize hWA : World.alloc _ _ = WA
  obtain ⟨P1, P2, P3, P4, P5, P6, P7, P8, hsz, hEA⟩ := alloc8 v8 _ _ _ _ _ _ _ _ hWA
  clear hWA
  have hl1 := heap_lt HG1.out
  have hs1 := hb1.size
  have hl2 := heap_lt HG2.out
  have hs2 := hb2.size
  have hl3 := heap_lt HG3.out
  have hs3 := hb3.size
  have hl4 := heap_lt HG4.out
  have hs4 := hb4.size
  have hl5 := heap_lt HG5.out
  have hs5 := hb5.size
  have hl6 := heap_lt HG6.out
  have hs6 := hb6.size
  have hl7 := heap_lt HG7.out
  have hs7 := hb7.size
  have hl8 := heap_lt HG8.out
  have hs8 := hb8.size
  have hs0 := hG.size
  have K1 := hid ((((((((hb2.trans hb3).trans hb4).trans hb5).trans hb6).trans hb7).trans hb8).trans hEA).heap HG1.out)
  have K2 := hid (((((((hb3.trans hb4).trans hb5).trans hb6).trans hb7).trans hb8).trans hEA).heap HG2.out)
  have K3 := hid ((((((hb4.trans hb5).trans hb6).trans hb7).trans hb8).trans hEA).heap HG3.out)
  have K4 := hid (((((hb5.trans hb6).trans hb7).trans hb8).trans hEA).heap HG4.out)
  have K5 := hid ((((hb6.trans hb7).trans hb8).trans hEA).heap HG5.out)
  have K6 := hid (((hb7.trans hb8).trans hEA).heap HG6.out)
  have K7 := hid ((hb8.trans hEA).heap HG7.out)
  have K8 := hid (hEA.heap HG8.out)
  have hZ0 := ((((((((hG.trans hb1).trans hb2).trans hb3).trans hb4).trans hb5).trans hb6).trans hb7).trans hb8).trans hEA
  clear hb1 HG1
  clear hb2 HG2
  clear hb3 HG3
  clear hb4 HG4
  clear hb5 HG5
  clear hb6 HG6
  clear hb7 HG7
  clear hb8 HG8
  clear hG hEA
  have P1h := hid P1
  clear P1
  have P2h := hid P2
  clear P2
  have P3h := hid P3
  clear P3
  have P4h := hid P4
  clear P4
  have P5h := hid P5
  clear P5
  have P6h := hid P6
  clear P6
  have P7h := hid P7
  clear P7
  have P8h := hid P8
  clear P8
  generalize hp8 : v8.heap.size + 1 + 1 + 1 + 1 + 1 + 1 + 1 = p8 at *
  generalize hp7 : v8.heap.size + 1 + 1 + 1 + 1 + 1 + 1 = p7 at *
  generalize hp6 : v8.heap.size + 1 + 1 + 1 + 1 + 1 = p6 at *
  generalize hp5 : v8.heap.size + 1 + 1 + 1 + 1 = p5 at *
  generalize hp4 : v8.heap.size + 1 + 1 + 1 = p4 at *
  generalize hp3 : v8.heap.size + 1 + 1 = p3 at *
  generalize hp2 : v8.heap.size + 1 = p2 at *
  generalize hp1 : v8.heap.size = p1 at *
  obtain ⟨y0, y1, y2, y3, y4⟩ := cells5 P1h.out
  obtain ⟨f0, f1, f2, f3, f4⟩ := frz5 P1h.out
  go_upto_region 19 with fail
  generalize hW : World.setCell _ _ _ = X1
  have P2h' := hid (show X1.heap[p2]? = some (.cells #[.int .i64 4, .int .i64 2, .int .i64 0, .int .i64 0, .slice (some ⟨b2, 0, none⟩) 2 d2] 36 (0, 0)) by rw [← hW]; exact (set_heap P2h.out (by omega)))
  have P3h' := hid (show X1.heap[p3]? = some (.cells #[.int .i64 4, .int .i64 2, .int .i64 0, .int .i64 0, .slice (some ⟨b3, 0, none⟩) 2 d3] 36 (0, 0)) by rw [← hW]; exact (set_heap P3h.out (by omega)))
  have P4h' := hid (show X1.heap[p4]? = some (.cells #[.int .i64 4, .int .i64 2, .int .i64 0, .int .i64 0, .slice (some ⟨b4, 0, none⟩) 2 d4] 36 (0, 0)) by rw [← hW]; exact (set_heap P4h.out (by omega)))
  have P5h' := hid (show X1.heap[p5]? = some (.cells #[.int .i64 4, .int .i64 2, .int .i64 0, .int .i64 0, .slice (some ⟨b5, 0, none⟩) 2 d5] 36 (0, 0)) by rw [← hW]; exact (set_heap P5h.out (by omega)))
  have P6h' := hid (show X1.heap[p6]? = some (.cells #[.int .i64 4, .int .i64 2, .int .i64 0, .int .i64 0, .slice (some ⟨b6, 0, none⟩) 2 d6] 36 (0, 0)) by rw [← hW]; exact (set_heap P6h.out (by omega)))
  have P7h' := hid (show X1.heap[p7]? = some (.cells #[.int .i64 4, .int .i64 2, .int .i64 0, .int .i64 0, .slice (some ⟨b7, 0, none⟩) 2 d7] 36 (0, 0)) by rw [← hW]; exact (set_heap P7h.out (by omega)))
  have P8h' := hid (show X1.heap[p8]? = some (.cells #[.int .i64 4, .int .i64 2, .int .i64 0, .int .i64 0, .slice (some ⟨b8, 0, none⟩) 2 d8] 36 (0, 0)) by rw [← hW]; exact (set_heap P8h.out (by omega)))
  have K1' := hid (show X1.heap[b1]? = some (.cells c1 73 (0, 0)) by rw [← hW]; exact (set_heap K1.out (by omega)))
  have K2' := hid (show X1.heap[b2]? = some (.cells c2 73 (0, 0)) by rw [← hW]; exact (set_heap K2.out (by omega)))
  have K3' := hid (show X1.heap[b3]? = some (.cells c3 73 (0, 0)) by rw [← hW]; exact (set_heap K3.out (by omega)))
  have K4' := hid (show X1.heap[b4]? = some (.cells c4 73 (0, 0)) by rw [← hW]; exact (set_heap K4.out (by omega)))
  have K5' := hid (show X1.heap[b5]? = some (.cells c5 73 (0, 0)) by rw [← hW]; exact (set_heap K5.out (by omega)))
  have K6' := hid (show X1.heap[b6]? = some (.cells c6 73 (0, 0)) by rw [← hW]; exact (set_heap K6.out (by omega)))
  have K7' := hid (show X1.heap[b7]? = some (.cells c7 73 (0, 0)) by rw [← hW]; exact (set_heap K7.out (by omega)))
  have K8' := hid (show X1.heap[b8]? = some (.cells c8 73 (0, 0)) by rw [← hW]; exact (set_heap K8.out (by omega)))
  have P1h' := hid (show X1.heap[p1]? = some (.cells #[.int .i64 8, .int .i64 2, .int .i64 0, .int .i64 0, .slice (some ⟨b1, 0, none⟩) 2 d1] 36 (0, 0)) by rw [← hW]; exact (set_heap_same P1h.out).trans rfl)
  have hZ0' : Ev w X1 := by rw [← hW]; exact (Ev.setCell hZ0 (by simp; omega) _)
  clear hW P1h P2h P3h P4h P5h P6h P7h P8h K1 K2 K3 K4 K5 K6 K7 K8 hZ0 y0 y1 y2 y3 y4 f0 f1 f2 f3 f4
  have P1h := hid P1h'.out
  clear P1h'
  have P2h := hid P2h'.out
  clear P2h'
  have P3h := hid P3h'.out
  clear P3h'
  have P4h := hid P4h'.out
  clear P4h'
  have P5h := hid P5h'.out
  clear P5h'
  have P6h := hid P6h'.out
  clear P6h'
  have P7h := hid P7h'.out
  clear P7h'
  have P8h := hid P8h'.out
  clear P8h'
  have K1 := hid K1'.out
  clear K1'
  have K2 := hid K2'.out
  clear K2'
  have K3 := hid K3'.out
  clear K3'
  have K4 := hid K4'.out
  clear K4'
  have K5 := hid K5'.out
  clear K5'
  have K6 := hid K6'.out
  clear K6'
  have K7 := hid K7'.out
  clear K7'
  have K8 := hid K8'.out
  clear K8'
  have hZ0 := hZ0'
  clear hZ0'
  obtain ⟨y0, y1, y2, y3, y4⟩ := cells5 P2h.out
  obtain ⟨f0, f1, f2, f3, f4⟩ := frz5 P2h.out
  go_upto_region 20 with fail
  generalize hW : World.setCell _ _ _ = X2
  have P1h' := hid (show X2.heap[p1]? = some (.cells #[.int .i64 8, .int .i64 2, .int .i64 0, .int .i64 0, .slice (some ⟨b1, 0, none⟩) 2 d1] 36 (0, 0)) by rw [← hW]; exact (set_heap P1h.out (by omega)))
  have P3h' := hid (show X2.heap[p3]? = some (.cells #[.int .i64 4, .int .i64 2, .int .i64 0, .int .i64 0, .slice (some ⟨b3, 0, none⟩) 2 d3] 36 (0, 0)) by rw [← hW]; exact (set_heap P3h.out (by omega)))
  have P4h' := hid (show X2.heap[p4]? = some (.cells #[.int .i64 4, .int .i64 2, .int .i64 0, .int .i64 0, .slice (some ⟨b4, 0, none⟩) 2 d4] 36 (0, 0)) by rw [← hW]; exact (set_heap P4h.out (by omega)))
  have P5h' := hid (show X2.heap[p5]? = some (.cells #[.int .i64 4, .int .i64 2, .int .i64 0, .int .i64 0, .slice (some ⟨b5, 0, none⟩) 2 d5] 36 (0, 0)) by rw [← hW]; exact (set_heap P5h.out (by omega)))
  have P6h' := hid (show X2.heap[p6]? = some (.cells #[.int .i64 4, .int .i64 2, .int .i64 0, .int .i64 0, .slice (some ⟨b6, 0, none⟩) 2 d6] 36 (0, 0)) by rw [← hW]; exact (set_heap P6h.out (by omega)))
  have P7h' := hid (show X2.heap[p7]? = some (.cells #[.int .i64 4, .int .i64 2, .int .i64 0, .int .i64 0, .slice (some ⟨b7, 0, none⟩) 2 d7] 36 (0, 0)) by rw [← hW]; exact (set_heap P7h.out (by omega)))
  have P8h' := hid (show X2.heap[p8]? = some (.cells #[.int .i64 4, .int .i64 2, .int .i64 0, .int .i64 0, .slice (some ⟨b8, 0, none⟩) 2 d8] 36 (0, 0)) by rw [← hW]; exact (set_heap P8h.out (by omega)))
  have K1' := hid (show X2.heap[b1]? = some (.cells c1 73 (0, 0)) by rw [← hW]; exact (set_heap K1.out (by omega)))
  have K2' := hid (show X2.heap[b2]? = some (.cells c2 73 (0, 0)) by rw [← hW]; exact (set_heap K2.out (by omega)))
  have K3' := hid (show X2.heap[b3]? = some (.cells c3 73 (0, 0)) by rw [← hW]; exact (set_heap K3.out (by omega)))
  have K4' := hid (show X2.heap[b4]? = some (.cells c4 73 (0, 0)) by rw [← hW]; exact (set_heap K4.out (by omega)))
  have K5' := hid (show X2.heap[b5]? = some (.cells c5 73 (0, 0)) by rw [← hW]; exact (set_heap K5.out (by omega)))
  have K6' := hid (show X2.heap[b6]? = some (.cells c6 73 (0, 0)) by rw [← hW]; exact (set_heap K6.out (by omega)))
  have K7' := hid (show X2.heap[b7]? = some (.cells c7 73 (0, 0)) by rw [← hW]; exact (set_heap K7.out (by omega)))
  have K8' := hid (show X2.heap[b8]? = some (.cells c8 73 (0, 0)) by rw [← hW]; exact (set_heap K8.out (by omega)))
  have P2h' := hid (show X2.heap[p2]? = some (.cells #[.int .i64 4, .int .i64 4, .int .i64 0, .int .i64 0, .slice (some ⟨b2, 0, none⟩) 2 d2] 36 (0, 0)) by rw [← hW]; exact (set_heap_same P2h.out).trans rfl)
  have hZ0' : Ev w X2 := by rw [← hW]; exact (Ev.setCell hZ0 (by simp; omega) _)
  clear hW P1h P2h P3h P4h P5h P6h P7h P8h K1 K2 K3 K4 K5 K6 K7 K8 hZ0 y0 y1 y2 y3 y4 f0 f1 f2 f3 f4
  have P1h := hid P1h'.out
  clear P1h'
  have P2h := hid P2h'.out
  clear P2h'
  have P3h := hid P3h'.out
  clear P3h'
  have P4h := hid P4h'.out
  clear P4h'
  have P5h := hid P5h'.out
  clear P5h'
  have P6h := hid P6h'.out
  clear P6h'
  have P7h := hid P7h'.out
  clear P7h'
  have P8h := hid P8h'.out
  clear P8h'
  have K1 := hid K1'.out
  clear K1'
  have K2 := hid K2'.out
  clear K2'
  have K3 := hid K3'.out
  clear K3'
  have K4 := hid K4'.out
  clear K4'
  have K5 := hid K5'.out
  clear K5'
  have K6 := hid K6'.out
  clear K6'
  have K7 := hid K7'.out
  clear K7'
  have K8 := hid K8'.out
  clear K8'
  have hZ0 := hZ0'
  clear hZ0'
  go_upto_region 21 with (go_at_call 49; ((with_reducible refine (between_c 0 5 _).mono ?_); rintro e wb ⟨rfl, hb⟩; replace hZ0 := hZ0.trans hb; replace P1h := hid (hb.heap P1h.out); replace P2h := hid (hb.heap P2h.out); replace P3h := hid (hb.heap P3h.out); replace P4h := hid (hb.heap P4h.out); replace P5h := hid (hb.heap P5h.out); replace P6h := hid (hb.heap P6h.out); replace P7h := hid (hb.heap P7h.out); replace P8h := hid (hb.heap P8h.out); replace K1 := hid (hb.heap K1.out); replace K2 := hid (hb.heap K2.out); replace K3 := hid (hb.heap K3.out); replace K4 := hid (hb.heap K4.out); replace K5 := hid (hb.heap K5.out); replace K6 := hid (hb.heap K6.out); replace K7 := hid (hb.heap K7.out); replace K8 := hid (hb.heap K8.out); clear hb; obtain ⟨y0, y1, y2, y3, y4⟩ := cells5 P3h.out; obtain ⟨f0, f1, f2, f3, f4⟩ := frz5 P3h.out))
  generalize hW : World.setCell _ _ _ = X3
  have P1h' := hid (show X3.heap[p1]? = some (.cells #[.int .i64 8, .int .i64 2, .int .i64 0, .int .i64 0, .slice (some ⟨b1, 0, none⟩) 2 d1] 36 (0, 0)) by rw [← hW]; exact (set_heap (set_heap P1h.out (by omega)) (by omega)))
  have P2h' := hid (show X3.heap[p2]? = some (.cells #[.int .i64 4, .int .i64 4, .int .i64 0, .int .i64 0, .slice (some ⟨b2, 0, none⟩) 2 d2] 36 (0, 0)) by rw [← hW]; exact (set_heap (set_heap P2h.out (by omega)) (by omega)))
  have P4h' := hid (show X3.heap[p4]? = some (.cells #[.int .i64 4, .int .i64 2, .int .i64 0, .int .i64 0, .slice (some ⟨b4, 0, none⟩) 2 d4] 36 (0, 0)) by rw [← hW]; exact (set_heap (set_heap P4h.out (by omega)) (by omega)))
  have P5h' := hid (show X3.heap[p5]? = some (.cells #[.int .i64 4, .int .i64 2, .int .i64 0, .int .i64 0, .slice (some ⟨b5, 0, none⟩) 2 d5] 36 (0, 0)) by rw [← hW]; exact (set_heap (set_heap P5h.out (by omega)) (by omega)))
  have P6h' := hid (show X3.heap[p6]? = some (.cells #[.int .i64 4, .int .i64 2, .int .i64 0, .int .i64 0, .slice (some ⟨b6, 0, none⟩) 2 d6] 36 (0, 0)) by rw [← hW]; exact (set_heap (set_heap P6h.out (by omega)) (by omega)))
  have P7h' := hid (show X3.heap[p7]? = some (.cells #[.int .i64 4, .int .i64 2, .int .i64 0, .int .i64 0, .slice (some ⟨b7, 0, none⟩) 2 d7] 36 (0, 0)) by rw [← hW]; exact (set_heap (set_heap P7h.out (by omega)) (by omega)))
  have P8h' := hid (show X3.heap[p8]? = some (.cells #[.int .i64 4, .int .i64 2, .int .i64 0, .int .i64 0, .slice (some ⟨b8, 0, none⟩) 2 d8] 36 (0, 0)) by rw [← hW]; exact (set_heap (set_heap P8h.out (by omega)) (by omega)))
  have K1' := hid (show X3.heap[b1]? = some (.cells c1 73 (0, 0)) by rw [← hW]; exact (set_heap (set_heap K1.out (by omega)) (by omega)))
  have K2' := hid (show X3.heap[b2]? = some (.cells c2 73 (0, 0)) by rw [← hW]; exact (set_heap (set_heap K2.out (by omega)) (by omega)))
  have K3' := hid (show X3.heap[b3]? = some (.cells c3 73 (0, 0)) by rw [← hW]; exact (set_heap (set_heap K3.out (by omega)) (by omega)))
  have K4' := hid (show X3.heap[b4]? = some (.cells c4 73 (0, 0)) by rw [← hW]; exact (set_heap (set_heap K4.out (by omega)) (by omega)))
  have K5' := hid (show X3.heap[b5]? = some (.cells c5 73 (0, 0)) by rw [← hW]; exact (set_heap (set_heap K5.out (by omega)) (by omega)))
  have K6' := hid (show X3.heap[b6]? = some (.cells c6 73 (0, 0)) by rw [← hW]; exact (set_heap (set_heap K6.out (by omega)) (by omega)))
  have K7' := hid (show X3.heap[b7]? = some (.cells c7 73 (0, 0)) by rw [← hW]; exact (set_heap (set_heap K7.out (by omega)) (by omega)))
  have K8' := hid (show X3.heap[b8]? = some (.cells c8 73 (0, 0)) by rw [← hW]; exact (set_heap (set_heap K8.out (by omega)) (by omega)))
  have P3h' := hid (show X3.heap[p3]? = some (.cells #[.int .i64 4, .int .i64 2, .int .i64 0, .int .i64 5, .slice (some ⟨b3, 0, none⟩) 2 d3] 36 (0, 0)) by rw [← hW]; exact (set_heap_same (set_heap_same P3h.out)).trans rfl)
  have hZ0' : Ev w X3 := by rw [← hW]; exact Ev.setCell (Ev.setCell hZ0 (by simp; omega) _) (by simp; omega) _
  clear hW P1h P2h P3h P4h P5h P6h P7h P8h K1 K2 K3 K4 K5 K6 K7 K8 hZ0 y0 y1 y2 y3 y4 f0 f1 f2 f3 f4
  have P1h := hid P1h'.out
  clear P1h'
  have P2h := hid P2h'.out
  clear P2h'
  have P3h := hid P3h'.out
  clear P3h'
  have P4h := hid P4h'.out
  clear P4h'
  have P5h := hid P5h'.out
  clear P5h'
  have P6h := hid P6h'.out
  clear P6h'
  have P7h := hid P7h'.out
  clear P7h'
  have P8h := hid P8h'.out
  clear P8h'
  have K1 := hid K1'.out
  clear K1'
  have K2 := hid K2'.out
  clear K2'
  have K3 := hid K3'.out
  clear K3'
  have K4 := hid K4'.out
  clear K4'
  have K5 := hid K5'.out
  clear K5'
  have K6 := hid K6'.out
  clear K6'
  have K7 := hid K7'.out
  clear K7'
  have K8 := hid K8'.out
  clear K8'
  have hZ0 := hZ0'
  clear hZ0'
  obtain ⟨y0, y1, y2, y3, y4⟩ := cells5 P4h.out
  have f0 := (cell_in K4.out 0).trans (take_get (v := .int .i64 0) ht4 rfl)
  have f1 := frozen_in K4.out 0
  have f2 := trivial
  have f3 := trivial
  have f4 := trivial
  go_upto_region 22 with fail
  generalize hW : World.setCell _ _ _ = X4
  have P1h' := hid (show X4.heap[p1]? = some (.cells #[.int .i64 8, .int .i64 2, .int .i64 0, .int .i64 0, .slice (some ⟨b1, 0, none⟩) 2 d1] 36 (0, 0)) by rw [← hW]; exact (set_heap P1h.out (by omega)))
  have P2h' := hid (show X4.heap[p2]? = some (.cells #[.int .i64 4, .int .i64 4, .int .i64 0, .int .i64 0, .slice (some ⟨b2, 0, none⟩) 2 d2] 36 (0, 0)) by rw [← hW]; exact (set_heap P2h.out (by omega)))
  have P3h' := hid (show X4.heap[p3]? = some (.cells #[.int .i64 4, .int .i64 2, .int .i64 0, .int .i64 5, .slice (some ⟨b3, 0, none⟩) 2 d3] 36 (0, 0)) by rw [← hW]; exact (set_heap P3h.out (by omega)))
  have P4h' := hid (show X4.heap[p4]? = some (.cells #[.int .i64 4, .int .i64 2, .int .i64 0, .int .i64 0, .slice (some ⟨b4, 0, none⟩) 2 d4] 36 (0, 0)) by rw [← hW]; exact (set_heap P4h.out (by omega)))
  have P5h' := hid (show X4.heap[p5]? = some (.cells #[.int .i64 4, .int .i64 2, .int .i64 0, .int .i64 0, .slice (some ⟨b5, 0, none⟩) 2 d5] 36 (0, 0)) by rw [← hW]; exact (set_heap P5h.out (by omega)))
  have P6h' := hid (show X4.heap[p6]? = some (.cells #[.int .i64 4, .int .i64 2, .int .i64 0, .int .i64 0, .slice (some ⟨b6, 0, none⟩) 2 d6] 36 (0, 0)) by rw [← hW]; exact (set_heap P6h.out (by omega)))
  have P7h' := hid (show X4.heap[p7]? = some (.cells #[.int .i64 4, .int .i64 2, .int .i64 0, .int .i64 0, .slice (some ⟨b7, 0, none⟩) 2 d7] 36 (0, 0)) by rw [← hW]; exact (set_heap P7h.out (by omega)))
  have P8h' := hid (show X4.heap[p8]? = some (.cells #[.int .i64 4, .int .i64 2, .int .i64 0, .int .i64 0, .slice (some ⟨b8, 0, none⟩) 2 d8] 36 (0, 0)) by rw [← hW]; exact (set_heap P8h.out (by omega)))
  have K1' := hid (show X4.heap[b1]? = some (.cells c1 73 (0, 0)) by rw [← hW]; exact (set_heap K1.out (by omega)))
  have K2' := hid (show X4.heap[b2]? = some (.cells c2 73 (0, 0)) by rw [← hW]; exact (set_heap K2.out (by omega)))
  have K3' := hid (show X4.heap[b3]? = some (.cells c3 73 (0, 0)) by rw [← hW]; exact (set_heap K3.out (by omega)))
  have K5' := hid (show X4.heap[b5]? = some (.cells c5 73 (0, 0)) by rw [← hW]; exact (set_heap K5.out (by omega)))
  have K6' := hid (show X4.heap[b6]? = some (.cells c6 73 (0, 0)) by rw [← hW]; exact (set_heap K6.out (by omega)))
  have K7' := hid (show X4.heap[b7]? = some (.cells c7 73 (0, 0)) by rw [← hW]; exact (set_heap K7.out (by omega)))
  have K8' := hid (show X4.heap[b8]? = some (.cells c8 73 (0, 0)) by rw [← hW]; exact (set_heap K8.out (by omega)))
  have K4' := hid (show X4.heap[b4]? = some (.cells (c4.setIfInBounds 0 (.int .i64 2)) 73 (0, 0)) by rw [← hW]; exact (set_heap_same K4.out).trans rfl)
  have hZ0' : Ev w X4 := by rw [← hW]; exact (Ev.setCell hZ0 (by simp; omega) _)
  clear hW P1h P2h P3h P4h P5h P6h P7h P8h K1 K2 K3 K4 K5 K6 K7 K8 hZ0 y0 y1 y2 y3 y4 f0 f1 f2 f3 f4
  have P1h := hid P1h'.out
  clear P1h'
  have P2h := hid P2h'.out
  clear P2h'
  have P3h := hid P3h'.out
  clear P3h'
  have P4h := hid P4h'.out
  clear P4h'
  have P5h := hid P5h'.out
  clear P5h'
  have P6h := hid P6h'.out
  clear P6h'
  have P7h := hid P7h'.out
  clear P7h'
  have P8h := hid P8h'.out
  clear P8h'
  have K1 := hid K1'.out
  clear K1'
  have K2 := hid K2'.out
  clear K2'
  have K3 := hid K3'.out
  clear K3'
  have K4 := hid K4'.out
  clear K4'
  have K5 := hid K5'.out
  clear K5'
  have K6 := hid K6'.out
  clear K6'
  have K7 := hid K7'.out
  clear K7'
  have K8 := hid K8'.out
  clear K8'
  have hZ0 := hZ0'
  clear hZ0'
  obtain ⟨y0, y1, y2, y3, y4⟩ := cells5 P5h.out
  have f0 := (cell_in K5.out 1).trans (take_get (v := .int .i64 0) ht5 rfl)
  have f1 := frozen_in K5.out 1
  have f2 := trivial
  have f3 := trivial
  have f4 := trivial
  go_upto_region 23 with fail
  generalize hW : World.setCell _ _ _ = X5
  have P1h' := hid (show X5.heap[p1]? = some (.cells #[.int .i64 8, .int .i64 2, .int .i64 0, .int .i64 0, .slice (some ⟨b1, 0, none⟩) 2 d1] 36 (0, 0)) by rw [← hW]; exact (set_heap P1h.out (by omega)))
  have P2h' := hid (show X5.heap[p2]? = some (.cells #[.int .i64 4, .int .i64 4, .int .i64 0, .int .i64 0, .slice (some ⟨b2, 0, none⟩) 2 d2] 36 (0, 0)) by rw [← hW]; exact (set_heap P2h.out (by omega)))
  have P3h' := hid (show X5.heap[p3]? = some (.cells #[.int .i64 4, .int .i64 2, .int .i64 0, .int .i64 5, .slice (some ⟨b3, 0, none⟩) 2 d3] 36 (0, 0)) by rw [← hW]; exact (set_heap P3h.out (by omega)))
  have P4h' := hid (show X5.heap[p4]? = some (.cells #[.int .i64 4, .int .i64 2, .int .i64 0, .int .i64 0, .slice (some ⟨b4, 0, none⟩) 2 d4] 36 (0, 0)) by rw [← hW]; exact (set_heap P4h.out (by omega)))
  have P5h' := hid (show X5.heap[p5]? = some (.cells #[.int .i64 4, .int .i64 2, .int .i64 0, .int .i64 0, .slice (some ⟨b5, 0, none⟩) 2 d5] 36 (0, 0)) by rw [← hW]; exact (set_heap P5h.out (by omega)))
  have P6h' := hid (show X5.heap[p6]? = some (.cells #[.int .i64 4, .int .i64 2, .int .i64 0, .int .i64 0, .slice (some ⟨b6, 0, none⟩) 2 d6] 36 (0, 0)) by rw [← hW]; exact (set_heap P6h.out (by omega)))
  have P7h' := hid (show X5.heap[p7]? = some (.cells #[.int .i64 4, .int .i64 2, .int .i64 0, .int .i64 0, .slice (some ⟨b7, 0, none⟩) 2 d7] 36 (0, 0)) by rw [← hW]; exact (set_heap P7h.out (by omega)))
  have P8h' := hid (show X5.heap[p8]? = some (.cells #[.int .i64 4, .int .i64 2, .int .i64 0, .int .i64 0, .slice (some ⟨b8, 0, none⟩) 2 d8] 36 (0, 0)) by rw [← hW]; exact (set_heap P8h.out (by omega)))
  have K1' := hid (show X5.heap[b1]? = some (.cells c1 73 (0, 0)) by rw [← hW]; exact (set_heap K1.out (by omega)))
  have K2' := hid (show X5.heap[b2]? = some (.cells c2 73 (0, 0)) by rw [← hW]; exact (set_heap K2.out (by omega)))
  have K3' := hid (show X5.heap[b3]? = some (.cells c3 73 (0, 0)) by rw [← hW]; exact (set_heap K3.out (by omega)))
  have K4' := hid (show X5.heap[b4]? = some (.cells (c4.setIfInBounds 0 (.int .i64 2)) 73 (0, 0)) by rw [← hW]; exact (set_heap K4.out (by omega)))
  have K6' := hid (show X5.heap[b6]? = some (.cells c6 73 (0, 0)) by rw [← hW]; exact (set_heap K6.out (by omega)))
  have K7' := hid (show X5.heap[b7]? = some (.cells c7 73 (0, 0)) by rw [← hW]; exact (set_heap K7.out (by omega)))
  have K8' := hid (show X5.heap[b8]? = some (.cells c8 73 (0, 0)) by rw [← hW]; exact (set_heap K8.out (by omega)))
  have K5' := hid (show X5.heap[b5]? = some (.cells (c5.setIfInBounds 1 (.int .i64 3)) 73 (0, 0)) by rw [← hW]; exact (set_heap_same K5.out).trans rfl)
  have hZ0' : Ev w X5 := by rw [← hW]; exact (Ev.setCell hZ0 (by simp; omega) _)
  clear hW P1h P2h P3h P4h P5h P6h P7h P8h K1 K2 K3 K4 K5 K6 K7 K8 hZ0 y0 y1 y2 y3 y4 f0 f1 f2 f3 f4
  have P1h := hid P1h'.out
  clear P1h'
  have P2h := hid P2h'.out
  clear P2h'
  have P3h := hid P3h'.out
  clear P3h'
  have P4h := hid P4h'.out
  clear P4h'
  have P5h := hid P5h'.out
  clear P5h'
  have P6h := hid P6h'.out
  clear P6h'
  have P7h := hid P7h'.out
  clear P7h'
  have P8h := hid P8h'.out
  clear P8h'
  have K1 := hid K1'.out
  clear K1'
  have K2 := hid K2'.out
  clear K2'
  have K3 := hid K3'.out
  clear K3'
  have K4 := hid K4'.out
  clear K4'
  have K5 := hid K5'.out
  clear K5'
  have K6 := hid K6'.out
  clear K6'
  have K7 := hid K7'.out
  clear K7'
  have K8 := hid K8'.out
  clear K8'
  have hZ0 := hZ0'
  clear hZ0'
  obtain ⟨y0, y1, y2, y3, y4⟩ := cells5 P6h.out
  obtain ⟨f0, f1, f2, f3, f4⟩ := frz5 P6h.out
  have hp6l := heap_lt P6h.out
  go_upto_region 24 with fail
  have hpm := heap_lt P8h.out
  generalize hW : World.alloc _ _ = X6
  have P1h' := hid (show X6.heap[p1]? = some (.cells #[.int .i64 8, .int .i64 2, .int .i64 0, .int .i64 0, .slice (some ⟨b1, 0, none⟩) 2 d1] 36 (0, 0)) by rw [← hW]; exact heap_old _ (set_heap P1h.out (by omega)))
  have P2h' := hid (show X6.heap[p2]? = some (.cells #[.int .i64 4, .int .i64 4, .int .i64 0, .int .i64 0, .slice (some ⟨b2, 0, none⟩) 2 d2] 36 (0, 0)) by rw [← hW]; exact heap_old _ (set_heap P2h.out (by omega)))
  have P3h' := hid (show X6.heap[p3]? = some (.cells #[.int .i64 4, .int .i64 2, .int .i64 0, .int .i64 5, .slice (some ⟨b3, 0, none⟩) 2 d3] 36 (0, 0)) by rw [← hW]; exact heap_old _ (set_heap P3h.out (by omega)))
  have P4h' := hid (show X6.heap[p4]? = some (.cells #[.int .i64 4, .int .i64 2, .int .i64 0, .int .i64 0, .slice (some ⟨b4, 0, none⟩) 2 d4] 36 (0, 0)) by rw [← hW]; exact heap_old _ (set_heap P4h.out (by omega)))
  have P5h' := hid (show X6.heap[p5]? = some (.cells #[.int .i64 4, .int .i64 2, .int .i64 0, .int .i64 0, .slice (some ⟨b5, 0, none⟩) 2 d5] 36 (0, 0)) by rw [← hW]; exact heap_old _ (set_heap P5h.out (by omega)))
  have P7h' := hid (show X6.heap[p7]? = some (.cells #[.int .i64 4, .int .i64 2, .int .i64 0, .int .i64 0, .slice (some ⟨b7, 0, none⟩) 2 d7] 36 (0, 0)) by rw [← hW]; exact heap_old _ (set_heap P7h.out (by omega)))
  have P8h' := hid (show X6.heap[p8]? = some (.cells #[.int .i64 4, .int .i64 2, .int .i64 0, .int .i64 0, .slice (some ⟨b8, 0, none⟩) 2 d8] 36 (0, 0)) by rw [← hW]; exact heap_old _ (set_heap P8h.out (by omega)))
  have K1' := hid (show X6.heap[b1]? = some (.cells c1 73 (0, 0)) by rw [← hW]; exact heap_old _ (set_heap K1.out (by omega)))
  have K2' := hid (show X6.heap[b2]? = some (.cells c2 73 (0, 0)) by rw [← hW]; exact heap_old _ (set_heap K2.out (by omega)))
  have K3' := hid (show X6.heap[b3]? = some (.cells c3 73 (0, 0)) by rw [← hW]; exact heap_old _ (set_heap K3.out (by omega)))
  have K4' := hid (show X6.heap[b4]? = some (.cells (c4.setIfInBounds 0 (.int .i64 2)) 73 (0, 0)) by rw [← hW]; exact heap_old _ (set_heap K4.out (by omega)))
  have K5' := hid (show X6.heap[b5]? = some (.cells (c5.setIfInBounds 1 (.int .i64 3)) 73 (0, 0)) by rw [← hW]; exact heap_old _ (set_heap K5.out (by omega)))
  have K6' := hid (show X6.heap[b6]? = some (.cells c6 73 (0, 0)) by rw [← hW]; exact heap_old _ (set_heap K6.out (by omega)))
  have K7' := hid (show X6.heap[b7]? = some (.cells c7 73 (0, 0)) by rw [← hW]; exact heap_old _ (set_heap K7.out (by omega)))
  have K8' := hid (show X6.heap[b8]? = some (.cells c8 73 (0, 0)) by rw [← hW]; exact heap_old _ (set_heap K8.out (by omega)))
  have KM := hid (show X6.heap[X5.heap.size]? = some (.cells zs 73 (0, 0)) by rw [← hW]; exact heap_at _ _ (by simp))
  have P6h' := hid (show X6.heap[p6]? = some (.cells #[.int .i64 4, .int .i64 2, .int .i64 0, .int .i64 0, .slice (some ⟨X5.heap.size, 0, none⟩) 6 6] 36 (0, 0)) by rw [← hW]; exact heap_old _ ((set_heap_same P6h.out).trans rfl))
  have hZ0' : Ev w X6 := by rw [← hW]; exact Ev.alloc (Ev.setCell hZ0 (by simp; omega) _) _
  clear hp6l hW P1h P2h P3h P4h P5h P6h P7h P8h K1 K2 K3 K4 K5 K6 K7 K8 hZ0 y0 y1 y2 y3 y4 f0 f1 f2 f3 f4
  have P1h := hid P1h'.out
  clear P1h'
  have P2h := hid P2h'.out
  clear P2h'
  have P3h := hid P3h'.out
  clear P3h'
  have P4h := hid P4h'.out
  clear P4h'
  have P5h := hid P5h'.out
  clear P5h'
  have P6h := hid P6h'.out
  clear P6h'
  have P7h := hid P7h'.out
  clear P7h'
  have P8h := hid P8h'.out
  clear P8h'
  have K1 := hid K1'.out
  clear K1'
  have K2 := hid K2'.out
  clear K2'
  have K3 := hid K3'.out
  clear K3'
  have K4 := hid K4'.out
  clear K4'
  have K5 := hid K5'.out
  clear K5'
  have K6 := hid K6'.out
  clear K6'
  have K7 := hid K7'.out
  clear K7'
  have K8 := hid K8'.out
  clear K8'
  have hZ0 := hZ0'
  clear hZ0'
  generalize X5.heap.size = pm at *
  obtain ⟨y0, y1, y2, y3, y4⟩ := cells5 P7h.out
  obtain ⟨f0, f1, f2, f3, f4⟩ := frz5 P7h.out
  go_upto_region 25 with fail
  generalize hW : World.setCell _ _ _ = X7
  have P1h' := hid (show X7.heap[p1]? = some (.cells #[.int .i64 8, .int .i64 2, .int .i64 0, .int .i64 0, .slice (some ⟨b1, 0, none⟩) 2 d1] 36 (0, 0)) by rw [← hW]; exact (set_heap (set_heap P1h.out (by omega)) (by omega)))
  have P2h' := hid (show X7.heap[p2]? = some (.cells #[.int .i64 4, .int .i64 4, .int .i64 0, .int .i64 0, .slice (some ⟨b2, 0, none⟩) 2 d2] 36 (0, 0)) by rw [← hW]; exact (set_heap (set_heap P2h.out (by omega)) (by omega)))
  have P3h' := hid (show X7.heap[p3]? = some (.cells #[.int .i64 4, .int .i64 2, .int .i64 0, .int .i64 5, .slice (some ⟨b3, 0, none⟩) 2 d3] 36 (0, 0)) by rw [← hW]; exact (set_heap (set_heap P3h.out (by omega)) (by omega)))
  have P4h' := hid (show X7.heap[p4]? = some (.cells #[.int .i64 4, .int .i64 2, .int .i64 0, .int .i64 0, .slice (some ⟨b4, 0, none⟩) 2 d4] 36 (0, 0)) by rw [← hW]; exact (set_heap (set_heap P4h.out (by omega)) (by omega)))
  have P5h' := hid (show X7.heap[p5]? = some (.cells #[.int .i64 4, .int .i64 2, .int .i64 0, .int .i64 0, .slice (some ⟨b5, 0, none⟩) 2 d5] 36 (0, 0)) by rw [← hW]; exact (set_heap (set_heap P5h.out (by omega)) (by omega)))
  have P6h' := hid (show X7.heap[p6]? = some (.cells #[.int .i64 4, .int .i64 2, .int .i64 0, .int .i64 0, .slice (some ⟨pm, 0, none⟩) 6 6] 36 (0, 0)) by rw [← hW]; exact (set_heap (set_heap P6h.out (by omega)) (by omega)))
  have P8h' := hid (show X7.heap[p8]? = some (.cells #[.int .i64 4, .int .i64 2, .int .i64 0, .int .i64 0, .slice (some ⟨b8, 0, none⟩) 2 d8] 36 (0, 0)) by rw [← hW]; exact (set_heap (set_heap P8h.out (by omega)) (by omega)))
  have K1' := hid (show X7.heap[b1]? = some (.cells c1 73 (0, 0)) by rw [← hW]; exact (set_heap (set_heap K1.out (by omega)) (by omega)))
  have K2' := hid (show X7.heap[b2]? = some (.cells c2 73 (0, 0)) by rw [← hW]; exact (set_heap (set_heap K2.out (by omega)) (by omega)))
  have K3' := hid (show X7.heap[b3]? = some (.cells c3 73 (0, 0)) by rw [← hW]; exact (set_heap (set_heap K3.out (by omega)) (by omega)))
  have K4' := hid (show X7.heap[b4]? = some (.cells (c4.setIfInBounds 0 (.int .i64 2)) 73 (0, 0)) by rw [← hW]; exact (set_heap (set_heap K4.out (by omega)) (by omega)))
  have K5' := hid (show X7.heap[b5]? = some (.cells (c5.setIfInBounds 1 (.int .i64 3)) 73 (0, 0)) by rw [← hW]; exact (set_heap (set_heap K5.out (by omega)) (by omega)))
  have K6' := hid (show X7.heap[b6]? = some (.cells c6 73 (0, 0)) by rw [← hW]; exact (set_heap (set_heap K6.out (by omega)) (by omega)))
  have K7' := hid (show X7.heap[b7]? = some (.cells c7 73 (0, 0)) by rw [← hW]; exact (set_heap (set_heap K7.out (by omega)) (by omega)))
  have K8' := hid (show X7.heap[b8]? = some (.cells c8 73 (0, 0)) by rw [← hW]; exact (set_heap (set_heap K8.out (by omega)) (by omega)))
  have KM' := hid (show X7.heap[pm]? = some (.cells zs 73 (0, 0)) by rw [← hW]; exact (set_heap (set_heap KM.out (by omega)) (by omega)))
  have P7h' := hid (show X7.heap[p7]? = some (.cells #[.int .i64 6, .int .i64 3, .int .i64 0, .int .i64 0, .slice (some ⟨b7, 0, none⟩) 2 d7] 36 (0, 0)) by rw [← hW]; exact (set_heap_same (set_heap_same P7h.out)).trans rfl)
  have hZ0' : Ev w X7 := by rw [← hW]; exact (Ev.setCell (Ev.setCell hZ0 (by simp; omega) _) (by simp; omega) _)
  clear hW P1h P2h P3h P4h P5h P6h P7h P8h K1 K2 K3 K4 K5 K6 K7 K8 KM hZ0 y0 y1 y2 y3 y4 f0 f1 f2 f3 f4
  have P1h := hid P1h'.out
  clear P1h'
  have P2h := hid P2h'.out
  clear P2h'
  have P3h := hid P3h'.out
  clear P3h'
  have P4h := hid P4h'.out
  clear P4h'
  have P5h := hid P5h'.out
  clear P5h'
  have P6h := hid P6h'.out
  clear P6h'
  have P7h := hid P7h'.out
  clear P7h'
  have P8h := hid P8h'.out
  clear P8h'
  have K1 := hid K1'.out
  clear K1'
  have K2 := hid K2'.out
  clear K2'
  have K3 := hid K3'.out
  clear K3'
  have K4 := hid K4'.out
  clear K4'
  have K5 := hid K5'.out
  clear K5'
  have K6 := hid K6'.out
  clear K6'
  have K7 := hid K7'.out
  clear K7'
  have K8 := hid K8'.out
  clear K8'
  have KM := hid KM'.out
  clear KM'
  have hZ0 := hZ0'
  clear hZ0'
  obtain ⟨y0, y1, y2, y3, y4⟩ := cells5 P8h.out
  obtain ⟨f0, f1, f2, f3, f4⟩ := frz5 P8h.out
  go_upto_region 26 with fail
  generalize hW : World.setCell _ _ _ = X8
  have P1h' := hid (show X8.heap[p1]? = some (.cells #[.int .i64 8, .int .i64 2, .int .i64 0, .int .i64 0, .slice (some ⟨b1, 0, none⟩) 2 d1] 36 (0, 0)) by rw [← hW]; exact (set_heap P1h.out (by omega)))
  have P2h' := hid (show X8.heap[p2]? = some (.cells #[.int .i64 4, .int .i64 4, .int .i64 0, .int .i64 0, .slice (some ⟨b2, 0, none⟩) 2 d2] 36 (0, 0)) by rw [← hW]; exact (set_heap P2h.out (by omega)))
  have P3h' := hid (show X8.heap[p3]? = some (.cells #[.int .i64 4, .int .i64 2, .int .i64 0, .int .i64 5, .slice (some ⟨b3, 0, none⟩) 2 d3] 36 (0, 0)) by rw [← hW]; exact (set_heap P3h.out (by omega)))
  have P4h' := hid (show X8.heap[p4]? = some (.cells #[.int .i64 4, .int .i64 2, .int .i64 0, .int .i64 0, .slice (some ⟨b4, 0, none⟩) 2 d4] 36 (0, 0)) by rw [← hW]; exact (set_heap P4h.out (by omega)))
  have P5h' := hid (show X8.heap[p5]? = some (.cells #[.int .i64 4, .int .i64 2, .int .i64 0, .int .i64 0, .slice (some ⟨b5, 0, none⟩) 2 d5] 36 (0, 0)) by rw [← hW]; exact (set_heap P5h.out (by omega)))
  have P6h' := hid (show X8.heap[p6]? = some (.cells #[.int .i64 4, .int .i64 2, .int .i64 0, .int .i64 0, .slice (some ⟨pm, 0, none⟩) 6 6] 36 (0, 0)) by rw [← hW]; exact (set_heap P6h.out (by omega)))
  have P7h' := hid (show X8.heap[p7]? = some (.cells #[.int .i64 6, .int .i64 3, .int .i64 0, .int .i64 0, .slice (some ⟨b7, 0, none⟩) 2 d7] 36 (0, 0)) by rw [← hW]; exact (set_heap P7h.out (by omega)))
  have K1' := hid (show X8.heap[b1]? = some (.cells c1 73 (0, 0)) by rw [← hW]; exact (set_heap K1.out (by omega)))
  have K2' := hid (show X8.heap[b2]? = some (.cells c2 73 (0, 0)) by rw [← hW]; exact (set_heap K2.out (by omega)))
  have K3' := hid (show X8.heap[b3]? = some (.cells c3 73 (0, 0)) by rw [← hW]; exact (set_heap K3.out (by omega)))
  have K4' := hid (show X8.heap[b4]? = some (.cells (c4.setIfInBounds 0 (.int .i64 2)) 73 (0, 0)) by rw [← hW]; exact (set_heap K4.out (by omega)))
  have K5' := hid (show X8.heap[b5]? = some (.cells (c5.setIfInBounds 1 (.int .i64 3)) 73 (0, 0)) by rw [← hW]; exact (set_heap K5.out (by omega)))
  have K6' := hid (show X8.heap[b6]? = some (.cells c6 73 (0, 0)) by rw [← hW]; exact (set_heap K6.out (by omega)))
  have K7' := hid (show X8.heap[b7]? = some (.cells c7 73 (0, 0)) by rw [← hW]; exact (set_heap K7.out (by omega)))
  have K8' := hid (show X8.heap[b8]? = some (.cells c8 73 (0, 0)) by rw [← hW]; exact (set_heap K8.out (by omega)))
  have KM' := hid (show X8.heap[pm]? = some (.cells zs 73 (0, 0)) by rw [← hW]; exact (set_heap KM.out (by omega)))
  have P8h' := hid (show X8.heap[p8]? = some (.cells #[.int .i64 0, .int .i64 2, .int .i64 0, .int .i64 0, .slice (some ⟨b8, 0, none⟩) 2 d8] 36 (0, 0)) by rw [← hW]; exact (set_heap_same P8h.out).trans rfl)
  have hZ0' : Ev w X8 := by rw [← hW]; exact (Ev.setCell hZ0 (by simp; omega) _)
  clear hW P1h P2h P3h P4h P5h P6h P7h P8h K1 K2 K3 K4 K5 K6 K7 K8 KM hZ0 y0 y1 y2 y3 y4 f0 f1 f2 f3 f4
  have P1h := hid P1h'.out
  clear P1h'
  have P2h := hid P2h'.out
  clear P2h'
  have P3h := hid P3h'.out
  clear P3h'
  have P4h := hid P4h'.out
  clear P4h'
  have P5h := hid P5h'.out
  clear P5h'
  have P6h := hid P6h'.out
  clear P6h'
  have P7h := hid P7h'.out
  clear P7h'
  have P8h := hid P8h'.out
  clear P8h'
  have K1 := hid K1'.out
  clear K1'
  have K2 := hid K2'.out
  clear K2'
  have K3 := hid K3'.out
  clear K3'
  have K4 := hid K4'.out
  clear K4'
  have K5 := hid K5'.out
  clear K5'
  have K6 := hid K6'.out
  clear K6'
  have K7 := hid K7'.out
  clear K7'
  have K8 := hid K8'.out
  clear K8'
  have KM := hid KM'.out
  clear KM'
  have hZ0 := hZ0'
  clear hZ0'
  have S1 := hid (sl_cur (n := 2) hd1 (by omega) K1.out ht1 rfl)
  have S2 := hid (sl_cur (n := 2) hd2 (by omega) K2.out ht2 rfl)
  have S3 := hid (sl_cur (n := 2) hd3 (by omega) K3.out ht3 rfl)
  have S7 := hid (sl_cur (n := 2) hd7 (by omega) K7.out ht7 rfl)
  have S8 := hid (sl_cur (n := 2) hd8 (by omega) K8.out ht8 rfl)
  have S4 := hid (sl_cur (n := 2) (xs := [⟨2, 0, 2, ⟨2, 3⟩⟩, ⟨1, 2, 3, ⟨1, 2⟩⟩]) hd4 (by omega) K4.out (by rw [set_take]; exact (congrArg (fun l => l.set 0 (.int .i64 2)) ht4).trans rfl) rfl)
  have S5 := hid (sl_cur (n := 2) (xs := [⟨0, 3, 2, ⟨2, 3⟩⟩, ⟨1, 2, 3, ⟨1, 2⟩⟩]) hd5 (by omega) K5.out (by rw [set_take]; exact (congrArg (fun l => l.set 1 (.int .i64 3)) ht5).trans rfl) rfl)
  have S6 := hid (sl_cur (n := 6) (d := 6) (xs := List.replicate 6 ⟨0, 0, 0, ⟨0, 0⟩⟩) (Nat.le_refl _) (by omega) KM.out (by rw [HZS.out]; rfl) rfl)
  have hZ := Ev.refl X8
  obtain ⟨y0, y1, y2, y3, y4⟩ := cells5 P1h.out
  go_wp2_with (first | (go_at_call 23; ((with_reducible refine (nm_ck_rows _ _ _ (S1.out.ev hZ)).mono ?_); rintro e z1 ⟨rfl, hb⟩; replace hZ := hZ.trans hb; clear hb y0 y1 y2 y3 y4; obtain ⟨y0, y1, y2, y3, y4⟩ := cells5 (hZ.heap P2h.out))) | (go_at_call 23; ((with_reducible refine (nm_ck_wds _ _ _ (S2.out.ev hZ)).mono ?_); rintro e z2 ⟨rfl, hb⟩; replace hZ := hZ.trans hb; clear hb y0 y1 y2 y3 y4; obtain ⟨y0, y1, y2, y3, y4⟩ := cells5 (hZ.heap P3h.out))) | (go_at_call 23; ((with_reducible refine (nm_ck_left _ _ _ (S3.out.ev hZ)).mono ?_); rintro e z3 ⟨rfl, hb⟩; replace hZ := hZ.trans hb; clear hb y0 y1 y2 y3 y4; obtain ⟨y0, y1, y2, y3, y4⟩ := cells5 (hZ.heap P4h.out))) | (go_at_call 23; ((with_reducible refine (nm_ck_tally _ _ _ (S4.out.ev hZ)).mono ?_); rintro e z4 ⟨rfl, hb⟩; replace hZ := hZ.trans hb; clear hb y0 y1 y2 y3 y4; obtain ⟨y0, y1, y2, y3, y4⟩ := cells5 (hZ.heap P5h.out))) | (go_at_call 23; ((with_reducible refine (nm_ck_str _ _ _ (S5.out.ev hZ)).mono ?_); rintro e z5 ⟨rfl, hb⟩; replace hZ := hZ.trans hb; clear hb y0 y1 y2 y3 y4; obtain ⟨y0, y1, y2, y3, y4⟩ := cells5 (hZ.heap P6h.out))) | (go_at_call 23; ((with_reducible refine (nm_ck_many _ _ _ (S6.out.ev hZ)).mono ?_); rintro e z6 ⟨rfl, hb⟩; replace hZ := hZ.trans hb; clear hb y0 y1 y2 y3 y4; obtain ⟨y0, y1, y2, y3, y4⟩ := cells5 (hZ.heap P7h.out))) | (go_at_call 23; ((with_reducible refine (nm_ck_pow _ _ _ (S7.out.ev hZ)).mono ?_); rintro e z7 ⟨rfl, hb⟩; replace hZ := hZ.trans hb; clear hb y0 y1 y2 y3 y4; obtain ⟨y0, y1, y2, y3, y4⟩ := cells5 (hZ.heap P8h.out))) | (go_at_call 23; ((with_reducible refine (nm_ck_tired _ _ _ (S8.out.ev hZ)).mono ?_); rintro e z8 ⟨rfl, hb⟩; replace hZ := hZ.trans hb; clear hb y0 y1 y2 y3 y4)) | (go_at_call 21; ((with_reducible refine (awake_c _).mono ?_); rintro e z9 ⟨rfl, hb9⟩)))
  go_ret
  exact ⟨rfl, hZ0.trans (hZ.trans hb9)⟩

end Go.Proofs.Ytcecmphdmpeibaa
