/- syn: sameExprs, as a chain. syn: sameAtoms, as a chain. syn: sameLits, as a chain. syn: sameCtors, as a chain. syn: sameTypes, as a chain. syn: sameDecls, as a chain. syn: sameInits, as a chain. syn: sameComps, as a chain. syn: sameClauses, as a chain. syn: Same, as a chain. -/
import Derived.Test.YtccehgfecaamoaaGreatDoorQa23
set_option maxRecDepth 100000
set_option maxHeartbeats 32000000
namespace Go.Proofs.YtccehgfecaamoaaGreatDoor
section
open Go.RowKit Go.Maps
theorem Qjd {w : World} {xk xm xat : Int} {xt : Txt} {xa : Option Addr} {xn xc : Nat} {yk ym yat : Int} {yt : Txt} {ya : Option Addr} {yn yc : Nat} {s0 s1 s2 s3 : Bool} (h0 : s0 = decide (xk = yk)) (h1 : s1 = decide (xm = ym)) (h2 : s2 = decide (xt = yt)) (h3 : ∀ w', Below w.heap.size w w' → Calls Tryz.prog 102 #[.slice xa xn xc, .slice ya yn yc, .func (.func 103) #[] #[]] w' fun en w2 => en = .returned (.bool s3) ∧ Below w'.heap.size w' w2) :
  Calls Tryz.prog 103 #[.agg #[.int .i64 xk, .int .i64 xm, str xt, .slice xa xn xc, .int .i64 xat], .agg #[.int .i64 yk, .int .i64 ym, str yt, .slice ya yn yc, .int .i64 yat]] w fun en w' => en = .returned (.bool (s0 && s1 && s2 && s3)) ∧ Below w.heap.size w w' := by
 have B0 : Hid (Below w.heap.size w ((w.alloc (.cells #[.int .i64 xk, .int .i64 xm, str xt, .slice xa xn xc, .int .i64 xat] 67)).alloc (.cells #[.int .i64 yk, .int .i64 ym, str yt, .slice ya yn yc, .int .i64 yat] 67)) ∧ ((w.alloc (.cells #[.int .i64 xk, .int .i64 xm, str xt, .slice xa xn xc, .int .i64 xat] 67)).alloc (.cells #[.int .i64 yk, .int .i64 ym, str yt, .slice ya yn yc, .int .i64 yat] 67)).heap[w.heap.size]? = some (.cells #[.int .i64 xk, .int .i64 xm, str xt, .slice xa xn xc, .int .i64 xat] 67 (0, 0)) ∧ ((w.alloc (.cells #[.int .i64 xk, .int .i64 xm, str xt, .slice xa xn xc, .int .i64 xat] 67)).alloc (.cells #[.int .i64 yk, .int .i64 ym, str yt, .slice ya yn yc, .int .i64 yat] 67)).heap[w.heap.size + 1]? = some (.cells #[.int .i64 yk, .int .i64 ym, str yt, .slice ya yn yc, .int .i64 yat] 67 (0, 0))) := by
  refine ⟨((Below.refl _ w).alloc (Nat.le_refl _) _).alloc (by simp) _, ?_, ?_⟩
  · rw [Below.heap_alloc _ _ _ (by simp)]; exact heap_alloc_new w _
  have := heap_alloc_new (w.alloc (.cells #[.int .i64 xk, .int .i64 xm, str xt, .slice xa xn xc, .int .i64 xat] 67)) (.cells #[.int .i64 yk, .int .i64 ym, str yt, .slice ya yn yc, .int .i64 yat] 67)
  rw [show (w.alloc (.cells #[.int .i64 xk, .int .i64 xm, str xt, .slice xa xn xc, .int .i64 xat] 67)).heap.size = w.heap.size + 1 by simp] at this
  exact this
 have H0 := hide h0
 have H1 := hide h1
 have H2 := hide h2
 have H3 := hide h3
 clear h0 h1 h2 h3
 cases s0
 ·
  have g0 : (xk == yk) = false := by simpa using Qa H0
  go_enter Tryz.func103, Tryz.ntmps103
  go_wp2_with fail
  go_ret
  exact ⟨rfl, (Qa B0).1⟩
 have g0 : (xk == yk) = true := by simpa using Qa H0
 cases s1
 ·
  have g1 : (xm == ym) = false := by simpa using Qa H1
  go_enter Tryz.func103, Tryz.ntmps103
  go_wp2_with fail
  go_ret
  exact ⟨rfl, (Qa B0).1⟩
 have g1 : (xm == ym) = true := by simpa using Qa H1
 cases s2
 ·
  have g2 : (xt == yt) = false := by simpa using Qa H2
  go_enter Tryz.func103, Tryz.ntmps103
  go_wp2_with fail
  go_ret
  exact ⟨rfl, (Qa B0).1⟩
 have g2 : (xt == yt) = true := by simpa using Qa H2
 go_enter Tryz.func103, Tryz.ntmps103
 have hcl := Qa H3 _ (Qa B0).1
 go_wp2_with fail
 refine hcl.mono ?_
 clear hcl
 rintro en w3 ⟨rfl, b3⟩
 obtain ⟨bb, na, nb⟩ := Qa B0
 have na3 := (b3.block _ (Qaf na)).trans na
 have nb3 := (b3.block _ (Qaf nb)).trans nb
 have BB3 := hide (Ya (bb.trans (b3.mono bb.size)) (Ya na3 nb3))
 obtain ⟨x_0, x_1, x_2, x_3, x_4, xf⟩ := cl5 na3
 obtain ⟨y_0, y_1, y_2, y_3, y_4, yf⟩ := cl5 nb3
 clear bb na nb b3 na3 nb3
 cases s3
 ·
  go_wp2_with fail
  go_ret
  exact ⟨rfl, (Qa BB3).1⟩
 go_wp2_with fail
 go_ret
 exact ⟨rfl, (Qa BB3).1⟩
end
section
open Go.RowKit Go.Maps
theorem Qj {w : World} {xat : Int} {xt : Txt} {xa : Option Addr} {xn xc : Nat} {yat : Int} {yt : Txt} {ya : Option Addr} {yn yc : Nat} {s0 s1 : Bool} (h0 : s0 = decide (xt = yt)) (h1 : ∀ w', Below w.heap.size w w' → Calls Tryz.prog 102 #[.slice xa xn xc, .slice ya yn yc, .func (.func 103) #[] #[]] w' fun en w2 => en = .returned (.bool s1) ∧ Below w'.heap.size w' w2) :
  Calls Tryz.prog 76 #[.agg #[str xt, .slice xa xn xc, .int .i64 xat], .agg #[str yt, .slice ya yn yc, .int .i64 yat]] w fun en w' => en = .returned (.bool (s0 && s1)) ∧ Below w.heap.size w w' := by
 have B0 : Hid (Below w.heap.size w ((w.alloc (.cells #[str xt, .slice xa xn xc, .int .i64 xat] 61)).alloc (.cells #[str yt, .slice ya yn yc, .int .i64 yat] 61)) ∧ ((w.alloc (.cells #[str xt, .slice xa xn xc, .int .i64 xat] 61)).alloc (.cells #[str yt, .slice ya yn yc, .int .i64 yat] 61)).heap[w.heap.size]? = some (.cells #[str xt, .slice xa xn xc, .int .i64 xat] 61 (0, 0)) ∧ ((w.alloc (.cells #[str xt, .slice xa xn xc, .int .i64 xat] 61)).alloc (.cells #[str yt, .slice ya yn yc, .int .i64 yat] 61)).heap[w.heap.size + 1]? = some (.cells #[str yt, .slice ya yn yc, .int .i64 yat] 61 (0, 0))) := by
  refine ⟨((Below.refl _ w).alloc (Nat.le_refl _) _).alloc (by simp) _, ?_, ?_⟩
  · rw [Below.heap_alloc _ _ _ (by simp)]; exact heap_alloc_new w _
  have := heap_alloc_new (w.alloc (.cells #[str xt, .slice xa xn xc, .int .i64 xat] 61)) (.cells #[str yt, .slice ya yn yc, .int .i64 yat] 61)
  rw [show (w.alloc (.cells #[str xt, .slice xa xn xc, .int .i64 xat] 61)).heap.size = w.heap.size + 1 by simp] at this
  exact this
 have H0 := hide h0
 have H1 := hide h1
 clear h0 h1
 cases s0
 ·
  have g0 : (xt == yt) = false := by simpa using Qa H0
  go_enter Tryz.func76, Tryz.ntmps76
  go_wp2_with fail
  go_ret
  exact ⟨rfl, (Qa B0).1⟩
 have g0 : (xt == yt) = true := by simpa using Qa H0
 go_enter Tryz.func76, Tryz.ntmps76
 have hcl := Qa H1 _ (Qa B0).1
 go_wp2_with fail
 refine hcl.mono ?_
 clear hcl
 rintro en w1 ⟨rfl, b1⟩
 obtain ⟨bb, na, nb⟩ := Qa B0
 have na1 := (b1.block _ (Qaf na)).trans na
 have nb1 := (b1.block _ (Qaf nb)).trans nb
 have BB1 := hide (Ya (bb.trans (b1.mono bb.size)) (Ya na1 nb1))
 obtain ⟨x_0, x_1, x_2, xf⟩ := cl3 na1
 obtain ⟨y_0, y_1, y_2, yf⟩ := cl3 nb1
 clear bb na nb b1 na1 nb1
 cases s1
 ·
  go_wp2_with fail
  go_ret
  exact ⟨rfl, (Qa BB1).1⟩
 go_wp2_with fail
 go_ret
 exact ⟨rfl, (Qa BB1).1⟩
end
section
open Go.RowKit Go.Maps
theorem Qke {w : World} {xk xat xk1 xm1 xat1 xk2 xm2 xat2 xat3 : Int} {xt xo xt1 xt2 : Txt} {xa x1a x2a : Option Addr} {xn xc x1n x1c x2n x2c : Nat} {yk yat yk1 ym1 yat1 yk2 ym2 yat2 yat3 : Int} {yt yo yt1 yt2 : Txt} {ya y1a y2a : Option Addr} {yn yc y1n y1c y2n y2c : Nat} {s0 s1 s2 s3 s4 : Bool} (h0 : s0 = decide (xk = yk)) (h1 : ∀ w', Below w.heap.size w w' → Calls Tryz.prog 76 #[.agg #[str xt, .slice xa xn xc, .int .i64 xat], .agg #[str yt, .slice ya yn yc, .int .i64 yat]] w' fun en w2 => en = .returned (.bool s1) ∧ Below w'.heap.size w' w2) (h2 : s2 = decide (xo = yo)) (h3 : ∀ w', Below w.heap.size w w' → Calls Tryz.prog 103 #[.agg #[.int .i64 xk1, .int .i64 xm1, str xt1, .slice x1a x1n x1c, .int .i64 xat1], .agg #[.int .i64 yk1, .int .i64 ym1, str yt1, .slice y1a y1n y1c, .int .i64 yat1]] w' fun en w2 => en = .returned (.bool s3) ∧ Below w'.heap.size w' w2) (h4 : ∀ w', Below w.heap.size w w' → Calls Tryz.prog 103 #[.agg #[.int .i64 xk2, .int .i64 xm2, str xt2, .slice x2a x2n x2c, .int .i64 xat2], .agg #[.int .i64 yk2, .int .i64 ym2, str yt2, .slice y2a y2n y2c, .int .i64 yat2]] w' fun en w2 => en = .returned (.bool s4) ∧ Below w'.heap.size w' w2) :
  Calls Tryz.prog 78 #[.agg #[.int .i64 xk, str xt, .slice xa xn xc, .int .i64 xat, str xo, .int .i64 xk1, .int .i64 xm1, str xt1, .slice x1a x1n x1c, .int .i64 xat1, .int .i64 xk2, .int .i64 xm2, str xt2, .slice x2a x2n x2c, .int .i64 xat2, .int .i64 xat3], .agg #[.int .i64 yk, str yt, .slice ya yn yc, .int .i64 yat, str yo, .int .i64 yk1, .int .i64 ym1, str yt1, .slice y1a y1n y1c, .int .i64 yat1, .int .i64 yk2, .int .i64 ym2, str yt2, .slice y2a y2n y2c, .int .i64 yat2, .int .i64 yat3]] w fun en w' => en = .returned (.bool (s0 && s1 && s2 && s3 && s4)) ∧ Below w.heap.size w w' := by
 have B0 : Hid (Below w.heap.size w ((w.alloc (.cells #[.int .i64 xk, str xt, .slice xa xn xc, .int .i64 xat, str xo, .int .i64 xk1, .int .i64 xm1, str xt1, .slice x1a x1n x1c, .int .i64 xat1, .int .i64 xk2, .int .i64 xm2, str xt2, .slice x2a x2n x2c, .int .i64 xat2, .int .i64 xat3] 69)).alloc (.cells #[.int .i64 yk, str yt, .slice ya yn yc, .int .i64 yat, str yo, .int .i64 yk1, .int .i64 ym1, str yt1, .slice y1a y1n y1c, .int .i64 yat1, .int .i64 yk2, .int .i64 ym2, str yt2, .slice y2a y2n y2c, .int .i64 yat2, .int .i64 yat3] 69)) ∧ ((w.alloc (.cells #[.int .i64 xk, str xt, .slice xa xn xc, .int .i64 xat, str xo, .int .i64 xk1, .int .i64 xm1, str xt1, .slice x1a x1n x1c, .int .i64 xat1, .int .i64 xk2, .int .i64 xm2, str xt2, .slice x2a x2n x2c, .int .i64 xat2, .int .i64 xat3] 69)).alloc (.cells #[.int .i64 yk, str yt, .slice ya yn yc, .int .i64 yat, str yo, .int .i64 yk1, .int .i64 ym1, str yt1, .slice y1a y1n y1c, .int .i64 yat1, .int .i64 yk2, .int .i64 ym2, str yt2, .slice y2a y2n y2c, .int .i64 yat2, .int .i64 yat3] 69)).heap[w.heap.size]? = some (.cells #[.int .i64 xk, str xt, .slice xa xn xc, .int .i64 xat, str xo, .int .i64 xk1, .int .i64 xm1, str xt1, .slice x1a x1n x1c, .int .i64 xat1, .int .i64 xk2, .int .i64 xm2, str xt2, .slice x2a x2n x2c, .int .i64 xat2, .int .i64 xat3] 69 (0, 0)) ∧ ((w.alloc (.cells #[.int .i64 xk, str xt, .slice xa xn xc, .int .i64 xat, str xo, .int .i64 xk1, .int .i64 xm1, str xt1, .slice x1a x1n x1c, .int .i64 xat1, .int .i64 xk2, .int .i64 xm2, str xt2, .slice x2a x2n x2c, .int .i64 xat2, .int .i64 xat3] 69)).alloc (.cells #[.int .i64 yk, str yt, .slice ya yn yc, .int .i64 yat, str yo, .int .i64 yk1, .int .i64 ym1, str yt1, .slice y1a y1n y1c, .int .i64 yat1, .int .i64 yk2, .int .i64 ym2, str yt2, .slice y2a y2n y2c, .int .i64 yat2, .int .i64 yat3] 69)).heap[w.heap.size + 1]? = some (.cells #[.int .i64 yk, str yt, .slice ya yn yc, .int .i64 yat, str yo, .int .i64 yk1, .int .i64 ym1, str yt1, .slice y1a y1n y1c, .int .i64 yat1, .int .i64 yk2, .int .i64 ym2, str yt2, .slice y2a y2n y2c, .int .i64 yat2, .int .i64 yat3] 69 (0, 0))) := by
  refine ⟨((Below.refl _ w).alloc (Nat.le_refl _) _).alloc (by simp) _, ?_, ?_⟩
  · rw [Below.heap_alloc _ _ _ (by simp)]; exact heap_alloc_new w _
  have := heap_alloc_new (w.alloc (.cells #[.int .i64 xk, str xt, .slice xa xn xc, .int .i64 xat, str xo, .int .i64 xk1, .int .i64 xm1, str xt1, .slice x1a x1n x1c, .int .i64 xat1, .int .i64 xk2, .int .i64 xm2, str xt2, .slice x2a x2n x2c, .int .i64 xat2, .int .i64 xat3] 69)) (.cells #[.int .i64 yk, str yt, .slice ya yn yc, .int .i64 yat, str yo, .int .i64 yk1, .int .i64 ym1, str yt1, .slice y1a y1n y1c, .int .i64 yat1, .int .i64 yk2, .int .i64 ym2, str yt2, .slice y2a y2n y2c, .int .i64 yat2, .int .i64 yat3] 69)
  rw [show (w.alloc (.cells #[.int .i64 xk, str xt, .slice xa xn xc, .int .i64 xat, str xo, .int .i64 xk1, .int .i64 xm1, str xt1, .slice x1a x1n x1c, .int .i64 xat1, .int .i64 xk2, .int .i64 xm2, str xt2, .slice x2a x2n x2c, .int .i64 xat2, .int .i64 xat3] 69)).heap.size = w.heap.size + 1 by simp] at this
  exact this
 have H0 := hide h0
 have H1 := hide h1
 have H2 := hide h2
 have H3 := hide h3
 have H4 := hide h4
 clear h0 h1 h2 h3 h4
 cases s0
 ·
  have g0 : (xk == yk) = false := by simpa using Qa H0
  go_enter Tryz.func78, Tryz.ntmps78
  go_wp2_with fail
  go_ret
  exact ⟨rfl, (Qa B0).1⟩
 have g0 : (xk == yk) = true := by simpa using Qa H0
 go_enter Tryz.func78, Tryz.ntmps78
 have hcl := Qa H1 _ (Qa B0).1
 go_wp2_with fail
 refine hcl.mono ?_
 clear hcl
 rintro en w1 ⟨rfl, b1⟩
 obtain ⟨bb, na, nb⟩ := Qa B0
 have na1 := (b1.block _ (Qaf na)).trans na
 have nb1 := (b1.block _ (Qaf nb)).trans nb
 have BB1 := hide (Ya (bb.trans (b1.mono bb.size)) (Ya na1 nb1))
 obtain ⟨x_0, x_1, x_2, x_3, x_4, x_5, x_6, x_7, x_8, x_9, x_10, x_11, x_12, x_13, x_14, x_15, xf⟩ := cl16 na1
 obtain ⟨y_0, y_1, y_2, y_3, y_4, y_5, y_6, y_7, y_8, y_9, y_10, y_11, y_12, y_13, y_14, y_15, yf⟩ := cl16 nb1
 clear bb na nb b1 na1 nb1
 cases s1
 ·
  go_wp2_with fail
  go_ret
  exact ⟨rfl, (Qa BB1).1⟩
 cases s2
 ·
  have g2 : (xo == yo) = false := by simpa using Qa H2
  go_wp2_with fail
  go_ret
  exact ⟨rfl, (Qa BB1).1⟩
 have g2 : (xo == yo) = true := by simpa using Qa H2
 have hcl := Qa H3 _ (Qa BB1).1
 go_wp2_with fail
 refine hcl.mono ?_
 clear hcl
 rintro en w3 ⟨rfl, b3⟩
 obtain ⟨bb, na, nb⟩ := Qa BB1
 have na3 := (b3.block _ (Qaf na)).trans na
 have nb3 := (b3.block _ (Qaf nb)).trans nb
 have BB3 := hide (Ya (bb.trans (b3.mono bb.size)) (Ya na3 nb3))
 obtain ⟨x_0, x_1, x_2, x_3, x_4, x_5, x_6, x_7, x_8, x_9, x_10, x_11, x_12, x_13, x_14, x_15, xf⟩ := cl16 na3
 obtain ⟨y_0, y_1, y_2, y_3, y_4, y_5, y_6, y_7, y_8, y_9, y_10, y_11, y_12, y_13, y_14, y_15, yf⟩ := cl16 nb3
 clear bb na nb b3 na3 nb3
 cases s3
 ·
  go_wp2_with fail
  go_ret
  exact ⟨rfl, (Qa BB3).1⟩
 have hcl := Qa H4 _ (Qa BB3).1
 go_wp2_with fail
 refine hcl.mono ?_
 clear hcl
 rintro en w4 ⟨rfl, b4⟩
 obtain ⟨bb, na, nb⟩ := Qa BB3
 have na4 := (b4.block _ (Qaf na)).trans na
 have nb4 := (b4.block _ (Qaf nb)).trans nb
 have BB4 := hide (Ya (bb.trans (b4.mono bb.size)) (Ya na4 nb4))
 obtain ⟨x_0, x_1, x_2, x_3, x_4, x_5, x_6, x_7, x_8, x_9, x_10, x_11, x_12, x_13, x_14, x_15, xf⟩ := cl16 na4
 obtain ⟨y_0, y_1, y_2, y_3, y_4, y_5, y_6, y_7, y_8, y_9, y_10, y_11, y_12, y_13, y_14, y_15, yf⟩ := cl16 nb4
 clear bb na nb b4 na4 nb4
 cases s4
 ·
  go_wp2_with fail
  go_ret
  exact ⟨rfl, (Qa BB4).1⟩
 go_wp2_with fail
 go_ret
 exact ⟨rfl, (Qa BB4).1⟩
end
section
open Go.RowKit Go.Maps
theorem Qjb {w : World} {xt : Txt} {xa : Option Addr} {xn xc : Nat} {yt : Txt} {ya : Option Addr} {yn yc : Nat} {s0 s1 : Bool} (h0 : s0 = decide (xt = yt)) (h1 : ∀ w', Below w.heap.size w w' → Calls Tryz.prog 74 #[.slice xa xn xc, .slice ya yn yc] w' fun en w2 => en = .returned (.bool s1) ∧ Below w'.heap.size w' w2) :
  Calls Tryz.prog 73 #[.agg #[str xt, .slice xa xn xc], .agg #[str yt, .slice ya yn yc]] w fun en w' => en = .returned (.bool (s0 && s1)) ∧ Below w.heap.size w w' := by
 have B0 : Hid (Below w.heap.size w ((w.alloc (.cells #[str xt, .slice xa xn xc] 119)).alloc (.cells #[str yt, .slice ya yn yc] 119)) ∧ ((w.alloc (.cells #[str xt, .slice xa xn xc] 119)).alloc (.cells #[str yt, .slice ya yn yc] 119)).heap[w.heap.size]? = some (.cells #[str xt, .slice xa xn xc] 119 (0, 0)) ∧ ((w.alloc (.cells #[str xt, .slice xa xn xc] 119)).alloc (.cells #[str yt, .slice ya yn yc] 119)).heap[w.heap.size + 1]? = some (.cells #[str yt, .slice ya yn yc] 119 (0, 0))) := by
  refine ⟨((Below.refl _ w).alloc (Nat.le_refl _) _).alloc (by simp) _, ?_, ?_⟩
  · rw [Below.heap_alloc _ _ _ (by simp)]; exact heap_alloc_new w _
  have := heap_alloc_new (w.alloc (.cells #[str xt, .slice xa xn xc] 119)) (.cells #[str yt, .slice ya yn yc] 119)
  rw [show (w.alloc (.cells #[str xt, .slice xa xn xc] 119)).heap.size = w.heap.size + 1 by simp] at this
  exact this
 have H0 := hide h0
 have H1 := hide h1
 clear h0 h1
 cases s0
 ·
  have g0 : (xt == yt) = false := by simpa using Qa H0
  go_enter Tryz.func73, Tryz.ntmps73
  go_wp2_with fail
  go_ret
  exact ⟨rfl, (Qa B0).1⟩
 have g0 : (xt == yt) = true := by simpa using Qa H0
 go_enter Tryz.func73, Tryz.ntmps73
 have hcl := Qa H1 _ (Qa B0).1
 go_wp2_with fail
 refine hcl.mono ?_
 clear hcl
 rintro en w1 ⟨rfl, b1⟩
 obtain ⟨bb, na, nb⟩ := Qa B0
 have na1 := (b1.block _ (Qaf na)).trans na
 have nb1 := (b1.block _ (Qaf nb)).trans nb
 have BB1 := hide (Ya (bb.trans (b1.mono bb.size)) (Ya na1 nb1))
 obtain ⟨x_0, x_1, xf⟩ := cl2 na1
 obtain ⟨y_0, y_1, yf⟩ := cl2 nb1
 clear bb na nb b1 na1 nb1
 cases s1
 ·
  go_wp2_with fail
  go_ret
  exact ⟨rfl, (Qa BB1).1⟩
 go_wp2_with fail
 go_ret
 exact ⟨rfl, (Qa BB1).1⟩
end
section
open Go.RowKit Go.Maps
theorem Qjf {w : World} {xat : Int} {xt xu : Txt} {xa : Option Addr} {xn xc : Nat} {yat : Int} {yt yu : Txt} {ya : Option Addr} {yn yc : Nat} {s0 s1 s2 : Bool} (h0 : s0 = decide (xt = yt)) (h1 : s1 = decide (xu = yu)) (h2 : ∀ w', Below w.heap.size w w' → Calls Tryz.prog 72 #[.slice xa xn xc, .slice ya yn yc, .func (.func 73) #[] #[]] w' fun en w2 => en = .returned (.bool s2) ∧ Below w'.heap.size w' w2) :
  Calls Tryz.prog 37 #[.agg #[str xt, str xu, .slice xa xn xc, .int .i64 xat], .agg #[str yt, str yu, .slice ya yn yc, .int .i64 yat]] w fun en w' => en = .returned (.bool (s0 && s1 && s2)) ∧ Below w.heap.size w w' := by
 have B0 : Hid (Below w.heap.size w ((w.alloc (.cells #[str xt, str xu, .slice xa xn xc, .int .i64 xat] 94)).alloc (.cells #[str yt, str yu, .slice ya yn yc, .int .i64 yat] 94)) ∧ ((w.alloc (.cells #[str xt, str xu, .slice xa xn xc, .int .i64 xat] 94)).alloc (.cells #[str yt, str yu, .slice ya yn yc, .int .i64 yat] 94)).heap[w.heap.size]? = some (.cells #[str xt, str xu, .slice xa xn xc, .int .i64 xat] 94 (0, 0)) ∧ ((w.alloc (.cells #[str xt, str xu, .slice xa xn xc, .int .i64 xat] 94)).alloc (.cells #[str yt, str yu, .slice ya yn yc, .int .i64 yat] 94)).heap[w.heap.size + 1]? = some (.cells #[str yt, str yu, .slice ya yn yc, .int .i64 yat] 94 (0, 0))) := by
  refine ⟨((Below.refl _ w).alloc (Nat.le_refl _) _).alloc (by simp) _, ?_, ?_⟩
  · rw [Below.heap_alloc _ _ _ (by simp)]; exact heap_alloc_new w _
  have := heap_alloc_new (w.alloc (.cells #[str xt, str xu, .slice xa xn xc, .int .i64 xat] 94)) (.cells #[str yt, str yu, .slice ya yn yc, .int .i64 yat] 94)
  rw [show (w.alloc (.cells #[str xt, str xu, .slice xa xn xc, .int .i64 xat] 94)).heap.size = w.heap.size + 1 by simp] at this
  exact this
 have H0 := hide h0
 have H1 := hide h1
 have H2 := hide h2
 clear h0 h1 h2
 cases s0
 ·
  have g0 : (xt == yt) = false := by simpa using Qa H0
  go_enter Tryz.func37, Tryz.ntmps37
  go_wp2_with fail
  go_ret
  exact ⟨rfl, (Qa B0).1⟩
 have g0 : (xt == yt) = true := by simpa using Qa H0
 cases s1
 ·
  have g1 : (xu == yu) = false := by simpa using Qa H1
  go_enter Tryz.func37, Tryz.ntmps37
  go_wp2_with fail
  go_ret
  exact ⟨rfl, (Qa B0).1⟩
 have g1 : (xu == yu) = true := by simpa using Qa H1
 go_enter Tryz.func37, Tryz.ntmps37
 have hcl := Qa H2 _ (Qa B0).1
 go_wp2_with fail
 refine hcl.mono ?_
 clear hcl
 rintro en w2 ⟨rfl, b2⟩
 obtain ⟨bb, na, nb⟩ := Qa B0
 have na2 := (b2.block _ (Qaf na)).trans na
 have nb2 := (b2.block _ (Qaf nb)).trans nb
 have BB2 := hide (Ya (bb.trans (b2.mono bb.size)) (Ya na2 nb2))
 obtain ⟨x_0, x_1, x_2, x_3, xf⟩ := cl4 na2
 obtain ⟨y_0, y_1, y_2, y_3, yf⟩ := cl4 nb2
 clear bb na nb b2 na2 nb2
 cases s2
 ·
  go_wp2_with fail
  go_ret
  exact ⟨rfl, (Qa BB2).1⟩
 go_wp2_with fail
 go_ret
 exact ⟨rfl, (Qa BB2).1⟩
end
section
open Go.RowKit Go.Maps
theorem Qjc {w : World} {xat : Int} {xt : Txt} {xi xo : Bool} {xa : Option Addr} {xn xc : Nat} {yat : Int} {yt : Txt} {yi yo : Bool} {ya : Option Addr} {yn yc : Nat} {s0 s1 s2 s3 : Bool} (h0 : s0 = decide (xt = yt)) (h1 : ∀ w', Below w.heap.size w w' → Calls Tryz.prog 74 #[.slice xa xn xc, .slice ya yn yc] w' fun en w2 => en = .returned (.bool s1) ∧ Below w'.heap.size w' w2) (h2 : s2 = decide (xi = yi)) (h3 : s3 = decide (xo = yo)) :
  Calls Tryz.prog 39 #[.agg #[str xt, .slice xa xn xc, .bool xi, .bool xo, .int .i64 xat], .agg #[str yt, .slice ya yn yc, .bool yi, .bool yo, .int .i64 yat]] w fun en w' => en = .returned (.bool (s0 && s1 && s2 && s3)) ∧ Below w.heap.size w w' := by
 have B0 : Hid (Below w.heap.size w ((w.alloc (.cells #[str xt, .slice xa xn xc, .bool xi, .bool xo, .int .i64 xat] 99)).alloc (.cells #[str yt, .slice ya yn yc, .bool yi, .bool yo, .int .i64 yat] 99)) ∧ ((w.alloc (.cells #[str xt, .slice xa xn xc, .bool xi, .bool xo, .int .i64 xat] 99)).alloc (.cells #[str yt, .slice ya yn yc, .bool yi, .bool yo, .int .i64 yat] 99)).heap[w.heap.size]? = some (.cells #[str xt, .slice xa xn xc, .bool xi, .bool xo, .int .i64 xat] 99 (0, 0)) ∧ ((w.alloc (.cells #[str xt, .slice xa xn xc, .bool xi, .bool xo, .int .i64 xat] 99)).alloc (.cells #[str yt, .slice ya yn yc, .bool yi, .bool yo, .int .i64 yat] 99)).heap[w.heap.size + 1]? = some (.cells #[str yt, .slice ya yn yc, .bool yi, .bool yo, .int .i64 yat] 99 (0, 0))) := by
  refine ⟨((Below.refl _ w).alloc (Nat.le_refl _) _).alloc (by simp) _, ?_, ?_⟩
  · rw [Below.heap_alloc _ _ _ (by simp)]; exact heap_alloc_new w _
  have := heap_alloc_new (w.alloc (.cells #[str xt, .slice xa xn xc, .bool xi, .bool xo, .int .i64 xat] 99)) (.cells #[str yt, .slice ya yn yc, .bool yi, .bool yo, .int .i64 yat] 99)
  rw [show (w.alloc (.cells #[str xt, .slice xa xn xc, .bool xi, .bool xo, .int .i64 xat] 99)).heap.size = w.heap.size + 1 by simp] at this
  exact this
 have H0 := hide h0
 have H1 := hide h1
 have H2 := hide h2
 have H3 := hide h3
 clear h0 h1 h2 h3
 cases s0
 ·
  have g0 : (xt == yt) = false := by simpa using Qa H0
  go_enter Tryz.func39, Tryz.ntmps39
  go_wp2_with fail
  go_ret
  exact ⟨rfl, (Qa B0).1⟩
 have g0 : (xt == yt) = true := by simpa using Qa H0
 go_enter Tryz.func39, Tryz.ntmps39
 have hcl := Qa H1 _ (Qa B0).1
 go_wp2_with fail
 refine hcl.mono ?_
 clear hcl
 rintro en w1 ⟨rfl, b1⟩
 obtain ⟨bb, na, nb⟩ := Qa B0
 have na1 := (b1.block _ (Qaf na)).trans na
 have nb1 := (b1.block _ (Qaf nb)).trans nb
 have BB1 := hide (Ya (bb.trans (b1.mono bb.size)) (Ya na1 nb1))
 obtain ⟨x_0, x_1, x_2, x_3, x_4, xf⟩ := cl5 na1
 obtain ⟨y_0, y_1, y_2, y_3, y_4, yf⟩ := cl5 nb1
 clear bb na nb b1 na1 nb1
 cases s1
 ·
  go_wp2_with fail
  go_ret
  exact ⟨rfl, (Qa BB1).1⟩
 cases s2
 ·
  have g2 : (xi == yi) = false := by simpa using Qa H2
  go_wp2_with fail
  go_ret
  exact ⟨rfl, (Qa BB1).1⟩
 have g2 : (xi == yi) = true := by simpa using Qa H2
 cases s3
 ·
  have g3 : (xo == yo) = false := by simpa using Qa H3
  go_wp2_with fail
  go_ret
  exact ⟨rfl, (Qa BB1).1⟩
 have g3 : (xo == yo) = true := by simpa using Qa H3
 go_wp2_with fail
 go_ret
 exact ⟨rfl, (Qa BB1).1⟩
end
section
open Go.RowKit Go.Maps
theorem Qje {w : World} {xat : Int} {xt xu : Txt} {yat : Int} {yt yu : Txt} {s0 s1 : Bool} (h0 : s0 = decide (xt = yt)) (h1 : s1 = decide (xu = yu)) :
  Calls Tryz.prog 43 #[.agg #[str xt, str xu, .int .i64 xat], .agg #[str yt, str yu, .int .i64 yat]] w fun en w' => en = .returned (.bool (s0 && s1)) ∧ Below w.heap.size w w' := by
 have B0 : Hid (Below w.heap.size w ((w.alloc (.cells #[str xt, str xu, .int .i64 xat] 77)).alloc (.cells #[str yt, str yu, .int .i64 yat] 77)) ∧ ((w.alloc (.cells #[str xt, str xu, .int .i64 xat] 77)).alloc (.cells #[str yt, str yu, .int .i64 yat] 77)).heap[w.heap.size]? = some (.cells #[str xt, str xu, .int .i64 xat] 77 (0, 0)) ∧ ((w.alloc (.cells #[str xt, str xu, .int .i64 xat] 77)).alloc (.cells #[str yt, str yu, .int .i64 yat] 77)).heap[w.heap.size + 1]? = some (.cells #[str yt, str yu, .int .i64 yat] 77 (0, 0))) := by
  refine ⟨((Below.refl _ w).alloc (Nat.le_refl _) _).alloc (by simp) _, ?_, ?_⟩
  · rw [Below.heap_alloc _ _ _ (by simp)]; exact heap_alloc_new w _
  have := heap_alloc_new (w.alloc (.cells #[str xt, str xu, .int .i64 xat] 77)) (.cells #[str yt, str yu, .int .i64 yat] 77)
  rw [show (w.alloc (.cells #[str xt, str xu, .int .i64 xat] 77)).heap.size = w.heap.size + 1 by simp] at this
  exact this
 have H0 := hide h0
 have H1 := hide h1
 clear h0 h1
 cases s0
 ·
  have g0 : (xt == yt) = false := by simpa using Qa H0
  go_enter Tryz.func43, Tryz.ntmps43
  go_wp2_with fail
  go_ret
  exact ⟨rfl, (Qa B0).1⟩
 have g0 : (xt == yt) = true := by simpa using Qa H0
 cases s1
 ·
  have g1 : (xu == yu) = false := by simpa using Qa H1
  go_enter Tryz.func43, Tryz.ntmps43
  go_wp2_with fail
  go_ret
  exact ⟨rfl, (Qa B0).1⟩
 have g1 : (xu == yu) = true := by simpa using Qa H1
 go_enter Tryz.func43, Tryz.ntmps43
 go_wp2_with fail
 go_ret
 exact ⟨rfl, (Qa B0).1⟩
end
section
open Go.RowKit Go.Maps
theorem Qja {w : World} {xat : Int} {xt : Txt} {xa : Option Addr} {xn xc : Nat} {x0a : Option Addr} {x0n x0c : Nat} {x1a : Option Addr} {x1n x1c : Nat} {x2a : Option Addr} {x2n x2c : Nat} {x3a : Option Addr} {x3n x3c : Nat} {x4a : Option Addr} {x4n x4c : Nat} {yat : Int} {yt : Txt} {ya : Option Addr} {yn yc : Nat} {y0a : Option Addr} {y0n y0c : Nat} {y1a : Option Addr} {y1n y1c : Nat} {y2a : Option Addr} {y2n y2c : Nat} {y3a : Option Addr} {y3n y3c : Nat} {y4a : Option Addr} {y4n y4c : Nat} {s0 s1 s2 : Bool} (h0 : s0 = decide (xt = yt)) (h1 : ∀ w', Below w.heap.size w w' → Calls Tryz.prog 75 #[.slice xa xn xc, .slice ya yn yc] w' fun en w2 => en = .returned (.bool s1) ∧ Below w'.heap.size w' w2) (h2 : ∀ w', Below w.heap.size w w' → Calls Tryz.prog 15 #[.agg #[.slice x0a x0n x0c, .slice x1a x1n x1c, .slice x2a x2n x2c, .slice x3a x3n x3c, .slice x4a x4n x4c], .agg #[.slice y0a y0n y0c, .slice y1a y1n y1c, .slice y2a y2n y2c, .slice y3a y3n y3c, .slice y4a y4n y4c]] w' fun en w2 => en = .returned (.bool s2) ∧ Below w'.heap.size w' w2) :
  Calls Tryz.prog 41 #[.agg #[str xt, .slice xa xn xc, .slice x0a x0n x0c, .slice x1a x1n x1c, .slice x2a x2n x2c, .slice x3a x3n x3c, .slice x4a x4n x4c, .int .i64 xat], .agg #[str yt, .slice ya yn yc, .slice y0a y0n y0c, .slice y1a y1n y1c, .slice y2a y2n y2c, .slice y3a y3n y3c, .slice y4a y4n y4c, .int .i64 yat]] w fun en w' => en = .returned (.bool (s0 && s1 && s2)) ∧ Below w.heap.size w w' := by
 have B0 : Hid (Below w.heap.size w ((w.alloc (.cells #[str xt, .slice xa xn xc, .slice x0a x0n x0c, .slice x1a x1n x1c, .slice x2a x2n x2c, .slice x3a x3n x3c, .slice x4a x4n x4c, .int .i64 xat] 72)).alloc (.cells #[str yt, .slice ya yn yc, .slice y0a y0n y0c, .slice y1a y1n y1c, .slice y2a y2n y2c, .slice y3a y3n y3c, .slice y4a y4n y4c, .int .i64 yat] 72)) ∧ ((w.alloc (.cells #[str xt, .slice xa xn xc, .slice x0a x0n x0c, .slice x1a x1n x1c, .slice x2a x2n x2c, .slice x3a x3n x3c, .slice x4a x4n x4c, .int .i64 xat] 72)).alloc (.cells #[str yt, .slice ya yn yc, .slice y0a y0n y0c, .slice y1a y1n y1c, .slice y2a y2n y2c, .slice y3a y3n y3c, .slice y4a y4n y4c, .int .i64 yat] 72)).heap[w.heap.size]? = some (.cells #[str xt, .slice xa xn xc, .slice x0a x0n x0c, .slice x1a x1n x1c, .slice x2a x2n x2c, .slice x3a x3n x3c, .slice x4a x4n x4c, .int .i64 xat] 72 (0, 0)) ∧ ((w.alloc (.cells #[str xt, .slice xa xn xc, .slice x0a x0n x0c, .slice x1a x1n x1c, .slice x2a x2n x2c, .slice x3a x3n x3c, .slice x4a x4n x4c, .int .i64 xat] 72)).alloc (.cells #[str yt, .slice ya yn yc, .slice y0a y0n y0c, .slice y1a y1n y1c, .slice y2a y2n y2c, .slice y3a y3n y3c, .slice y4a y4n y4c, .int .i64 yat] 72)).heap[w.heap.size + 1]? = some (.cells #[str yt, .slice ya yn yc, .slice y0a y0n y0c, .slice y1a y1n y1c, .slice y2a y2n y2c, .slice y3a y3n y3c, .slice y4a y4n y4c, .int .i64 yat] 72 (0, 0))) := by
  refine ⟨((Below.refl _ w).alloc (Nat.le_refl _) _).alloc (by simp) _, ?_, ?_⟩
  · rw [Below.heap_alloc _ _ _ (by simp)]; exact heap_alloc_new w _
  have := heap_alloc_new (w.alloc (.cells #[str xt, .slice xa xn xc, .slice x0a x0n x0c, .slice x1a x1n x1c, .slice x2a x2n x2c, .slice x3a x3n x3c, .slice x4a x4n x4c, .int .i64 xat] 72)) (.cells #[str yt, .slice ya yn yc, .slice y0a y0n y0c, .slice y1a y1n y1c, .slice y2a y2n y2c, .slice y3a y3n y3c, .slice y4a y4n y4c, .int .i64 yat] 72)
  rw [show (w.alloc (.cells #[str xt, .slice xa xn xc, .slice x0a x0n x0c, .slice x1a x1n x1c, .slice x2a x2n x2c, .slice x3a x3n x3c, .slice x4a x4n x4c, .int .i64 xat] 72)).heap.size = w.heap.size + 1 by simp] at this
  exact this
 have H0 := hide h0
 have H1 := hide h1
 have H2 := hide h2
 clear h0 h1 h2
 cases s0
 ·
  have g0 : (xt == yt) = false := by simpa using Qa H0
  go_enter Tryz.func41, Tryz.ntmps41
  go_wp2_with fail
  go_ret
  exact ⟨rfl, (Qa B0).1⟩
 have g0 : (xt == yt) = true := by simpa using Qa H0
 go_enter Tryz.func41, Tryz.ntmps41
 have hcl := Qa H1 _ (Qa B0).1
 go_wp2_with fail
 refine hcl.mono ?_
 clear hcl
 rintro en w1 ⟨rfl, b1⟩
 obtain ⟨bb, na, nb⟩ := Qa B0
 have na1 := (b1.block _ (Qaf na)).trans na
 have nb1 := (b1.block _ (Qaf nb)).trans nb
 have BB1 := hide (Ya (bb.trans (b1.mono bb.size)) (Ya na1 nb1))
 obtain ⟨x_0, x_1, x_2, x_3, x_4, x_5, x_6, x_7, xf⟩ := cl8 na1
 obtain ⟨y_0, y_1, y_2, y_3, y_4, y_5, y_6, y_7, yf⟩ := cl8 nb1
 clear bb na nb b1 na1 nb1
 cases s1
 ·
  go_wp2_with fail
  go_ret
  exact ⟨rfl, (Qa BB1).1⟩
 have hcl := Qa H2 _ (Qa BB1).1
 go_wp2_with fail
 refine hcl.mono ?_
 clear hcl
 rintro en w2 ⟨rfl, b2⟩
 obtain ⟨bb, na, nb⟩ := Qa BB1
 have na2 := (b2.block _ (Qaf na)).trans na
 have nb2 := (b2.block _ (Qaf nb)).trans nb
 have BB2 := hide (Ya (bb.trans (b2.mono bb.size)) (Ya na2 nb2))
 obtain ⟨x_0, x_1, x_2, x_3, x_4, x_5, x_6, x_7, xf⟩ := cl8 na2
 obtain ⟨y_0, y_1, y_2, y_3, y_4, y_5, y_6, y_7, yf⟩ := cl8 nb2
 clear bb na nb b2 na2 nb2
 cases s2
 ·
  go_wp2_with fail
  go_ret
  exact ⟨rfl, (Qa BB2).1⟩
 go_wp2_with fail
 go_ret
 exact ⟨rfl, (Qa BB2).1⟩
end
section
open Go.RowKit Go.Maps
theorem Qgi {w : World} {xat xat1 : Int} {xt : Txt} {xa x1a : Option Addr} {xn xc x1n x1c : Nat} {yat yat1 : Int} {yt : Txt} {ya y1a : Option Addr} {yn yc y1n y1c : Nat} {s0 s1 : Bool} (h0 : ∀ w', Below w.heap.size w w' → Calls Tryz.prog 76 #[.agg #[str xt, .slice xa xn xc, .int .i64 xat], .agg #[str yt, .slice ya yn yc, .int .i64 yat]] w' fun en w2 => en = .returned (.bool s0) ∧ Below w'.heap.size w' w2) (h1 : ∀ w', Below w.heap.size w w' → Calls Tryz.prog 77 #[.slice x1a x1n x1c, .slice y1a y1n y1c, .func (.func 78) #[] #[]] w' fun en w2 => en = .returned (.bool s1) ∧ Below w'.heap.size w' w2) :
  Calls Tryz.prog 45 #[.agg #[str xt, .slice xa xn xc, .int .i64 xat, .slice x1a x1n x1c, .int .i64 xat1], .agg #[str yt, .slice ya yn yc, .int .i64 yat, .slice y1a y1n y1c, .int .i64 yat1]] w fun en w' => en = .returned (.bool (s0 && s1)) ∧ Below w.heap.size w w' := by
 have B0 : Hid (Below w.heap.size w ((w.alloc (.cells #[str xt, .slice xa xn xc, .int .i64 xat, .slice x1a x1n x1c, .int .i64 xat1] 64)).alloc (.cells #[str yt, .slice ya yn yc, .int .i64 yat, .slice y1a y1n y1c, .int .i64 yat1] 64)) ∧ ((w.alloc (.cells #[str xt, .slice xa xn xc, .int .i64 xat, .slice x1a x1n x1c, .int .i64 xat1] 64)).alloc (.cells #[str yt, .slice ya yn yc, .int .i64 yat, .slice y1a y1n y1c, .int .i64 yat1] 64)).heap[w.heap.size]? = some (.cells #[str xt, .slice xa xn xc, .int .i64 xat, .slice x1a x1n x1c, .int .i64 xat1] 64 (0, 0)) ∧ ((w.alloc (.cells #[str xt, .slice xa xn xc, .int .i64 xat, .slice x1a x1n x1c, .int .i64 xat1] 64)).alloc (.cells #[str yt, .slice ya yn yc, .int .i64 yat, .slice y1a y1n y1c, .int .i64 yat1] 64)).heap[w.heap.size + 1]? = some (.cells #[str yt, .slice ya yn yc, .int .i64 yat, .slice y1a y1n y1c, .int .i64 yat1] 64 (0, 0))) := by
  refine ⟨((Below.refl _ w).alloc (Nat.le_refl _) _).alloc (by simp) _, ?_, ?_⟩
  · rw [Below.heap_alloc _ _ _ (by simp)]; exact heap_alloc_new w _
  have := heap_alloc_new (w.alloc (.cells #[str xt, .slice xa xn xc, .int .i64 xat, .slice x1a x1n x1c, .int .i64 xat1] 64)) (.cells #[str yt, .slice ya yn yc, .int .i64 yat, .slice y1a y1n y1c, .int .i64 yat1] 64)
  rw [show (w.alloc (.cells #[str xt, .slice xa xn xc, .int .i64 xat, .slice x1a x1n x1c, .int .i64 xat1] 64)).heap.size = w.heap.size + 1 by simp] at this
  exact this
 have H0 := hide h0
 have H1 := hide h1
 clear h0 h1
 go_enter Tryz.func45, Tryz.ntmps45
 have hcl := Qa H0 _ (Qa B0).1
 go_wp2_with fail
 refine hcl.mono ?_
 clear hcl
 rintro en w0 ⟨rfl, b0⟩
 obtain ⟨bb, na, nb⟩ := Qa B0
 have na0 := (b0.block _ (Qaf na)).trans na
 have nb0 := (b0.block _ (Qaf nb)).trans nb
 have BB0 := hide (Ya (bb.trans (b0.mono bb.size)) (Ya na0 nb0))
 obtain ⟨x_0, x_1, x_2, x_3, x_4, xf⟩ := cl5 na0
 obtain ⟨y_0, y_1, y_2, y_3, y_4, yf⟩ := cl5 nb0
 clear bb na nb b0 na0 nb0
 cases s0
 ·
  go_wp2_with fail
  go_ret
  exact ⟨rfl, (Qa BB0).1⟩
 have hcl := Qa H1 _ (Qa BB0).1
 go_wp2_with fail
 refine hcl.mono ?_
 clear hcl
 rintro en w1 ⟨rfl, b1⟩
 obtain ⟨bb, na, nb⟩ := Qa BB0
 have na1 := (b1.block _ (Qaf na)).trans na
 have nb1 := (b1.block _ (Qaf nb)).trans nb
 have BB1 := hide (Ya (bb.trans (b1.mono bb.size)) (Ya na1 nb1))
 obtain ⟨x_0, x_1, x_2, x_3, x_4, xf⟩ := cl5 na1
 obtain ⟨y_0, y_1, y_2, y_3, y_4, yf⟩ := cl5 nb1
 clear bb na nb b1 na1 nb1
 cases s1
 ·
  go_wp2_with fail
  go_ret
  exact ⟨rfl, (Qa BB1).1⟩
 go_wp2_with fail
 go_ret
 exact ⟨rfl, (Qa BB1).1⟩
end
section
open Go.RowKit Go.Maps
theorem Same_ch {w : World}  {x0a : Option Addr} {x0n x0c : Nat} {x1a : Option Addr} {x1n x1c : Nat} {x2a : Option Addr} {x2n x2c : Nat} {x3a : Option Addr} {x3n x3c : Nat} {x4a : Option Addr} {x4n x4c : Nat}  {y0a : Option Addr} {y0n y0c : Nat} {y1a : Option Addr} {y1n y1c : Nat} {y2a : Option Addr} {y2n y2c : Nat} {y3a : Option Addr} {y3n y3c : Nat} {y4a : Option Addr} {y4n y4c : Nat} {s0 s1 s2 s3 s4 : Bool} (h0 : ∀ w', Below w.heap.size w w' → Calls Tryz.prog 36 #[.slice x0a x0n x0c, .slice y0a y0n y0c, .func (.func 37) #[] #[]] w' fun en w2 => en = .returned (.bool s0) ∧ Below w'.heap.size w' w2) (h1 : ∀ w', Below w.heap.size w w' → Calls Tryz.prog 38 #[.slice x1a x1n x1c, .slice y1a y1n y1c, .func (.func 39) #[] #[]] w' fun en w2 => en = .returned (.bool s1) ∧ Below w'.heap.size w' w2) (h2 : ∀ w', Below w.heap.size w w' → Calls Tryz.prog 40 #[.slice x2a x2n x2c, .slice y2a y2n y2c, .func (.func 41) #[] #[]] w' fun en w2 => en = .returned (.bool s2) ∧ Below w'.heap.size w' w2) (h3 : ∀ w', Below w.heap.size w w' → Calls Tryz.prog 42 #[.slice x3a x3n x3c, .slice y3a y3n y3c, .func (.func 43) #[] #[]] w' fun en w2 => en = .returned (.bool s3) ∧ Below w'.heap.size w' w2) (h4 : ∀ w', Below w.heap.size w w' → Calls Tryz.prog 44 #[.slice x4a x4n x4c, .slice y4a y4n y4c, .func (.func 45) #[] #[]] w' fun en w2 => en = .returned (.bool s4) ∧ Below w'.heap.size w' w2) :
  Calls Tryz.prog 15 #[.agg #[.slice x0a x0n x0c, .slice x1a x1n x1c, .slice x2a x2n x2c, .slice x3a x3n x3c, .slice x4a x4n x4c], .agg #[.slice y0a y0n y0c, .slice y1a y1n y1c, .slice y2a y2n y2c, .slice y3a y3n y3c, .slice y4a y4n y4c]] w fun en w' => en = .returned (.bool (s0 && s1 && s2 && s3 && s4)) ∧ Below w.heap.size w w' := by
 have B0 : Hid (Below w.heap.size w ((w.alloc (.cells #[.slice x0a x0n x0c, .slice x1a x1n x1c, .slice x2a x2n x2c, .slice x3a x3n x3c, .slice x4a x4n x4c] 28)).alloc (.cells #[.slice y0a y0n y0c, .slice y1a y1n y1c, .slice y2a y2n y2c, .slice y3a y3n y3c, .slice y4a y4n y4c] 28)) ∧ ((w.alloc (.cells #[.slice x0a x0n x0c, .slice x1a x1n x1c, .slice x2a x2n x2c, .slice x3a x3n x3c, .slice x4a x4n x4c] 28)).alloc (.cells #[.slice y0a y0n y0c, .slice y1a y1n y1c, .slice y2a y2n y2c, .slice y3a y3n y3c, .slice y4a y4n y4c] 28)).heap[w.heap.size]? = some (.cells #[.slice x0a x0n x0c, .slice x1a x1n x1c, .slice x2a x2n x2c, .slice x3a x3n x3c, .slice x4a x4n x4c] 28 (0, 0)) ∧ ((w.alloc (.cells #[.slice x0a x0n x0c, .slice x1a x1n x1c, .slice x2a x2n x2c, .slice x3a x3n x3c, .slice x4a x4n x4c] 28)).alloc (.cells #[.slice y0a y0n y0c, .slice y1a y1n y1c, .slice y2a y2n y2c, .slice y3a y3n y3c, .slice y4a y4n y4c] 28)).heap[w.heap.size + 1]? = some (.cells #[.slice y0a y0n y0c, .slice y1a y1n y1c, .slice y2a y2n y2c, .slice y3a y3n y3c, .slice y4a y4n y4c] 28 (0, 0))) := by
  refine ⟨((Below.refl _ w).alloc (Nat.le_refl _) _).alloc (by simp) _, ?_, ?_⟩
  · rw [Below.heap_alloc _ _ _ (by simp)]; exact heap_alloc_new w _
  have := heap_alloc_new (w.alloc (.cells #[.slice x0a x0n x0c, .slice x1a x1n x1c, .slice x2a x2n x2c, .slice x3a x3n x3c, .slice x4a x4n x4c] 28)) (.cells #[.slice y0a y0n y0c, .slice y1a y1n y1c, .slice y2a y2n y2c, .slice y3a y3n y3c, .slice y4a y4n y4c] 28)
  rw [show (w.alloc (.cells #[.slice x0a x0n x0c, .slice x1a x1n x1c, .slice x2a x2n x2c, .slice x3a x3n x3c, .slice x4a x4n x4c] 28)).heap.size = w.heap.size + 1 by simp] at this
  exact this
 have H0 := hide h0
 have H1 := hide h1
 have H2 := hide h2
 have H3 := hide h3
 have H4 := hide h4
 clear h0 h1 h2 h3 h4
 go_enter Tryz.func15, Tryz.ntmps15
 have hcl := Qa H0 _ (Qa B0).1
 go_wp2_with fail
 refine hcl.mono ?_
 clear hcl
 rintro en w0 ⟨rfl, b0⟩
 obtain ⟨bb, na, nb⟩ := Qa B0
 have na0 := (b0.block _ (Qaf na)).trans na
 have nb0 := (b0.block _ (Qaf nb)).trans nb
 have BB0 := hide (Ya (bb.trans (b0.mono bb.size)) (Ya na0 nb0))
 obtain ⟨x_0, x_1, x_2, x_3, x_4, xf⟩ := cl5 na0
 obtain ⟨y_0, y_1, y_2, y_3, y_4, yf⟩ := cl5 nb0
 clear bb na nb b0 na0 nb0
 cases s0
 ·
  go_wp2_with fail
  go_ret
  exact ⟨rfl, (Qa BB0).1⟩
 have hcl := Qa H1 _ (Qa BB0).1
 go_wp2_with fail
 refine hcl.mono ?_
 clear hcl
 rintro en w1 ⟨rfl, b1⟩
 obtain ⟨bb, na, nb⟩ := Qa BB0
 have na1 := (b1.block _ (Qaf na)).trans na
 have nb1 := (b1.block _ (Qaf nb)).trans nb
 have BB1 := hide (Ya (bb.trans (b1.mono bb.size)) (Ya na1 nb1))
 obtain ⟨x_0, x_1, x_2, x_3, x_4, xf⟩ := cl5 na1
 obtain ⟨y_0, y_1, y_2, y_3, y_4, yf⟩ := cl5 nb1
 clear bb na nb b1 na1 nb1
 cases s1
 ·
  go_wp2_with fail
  go_ret
  exact ⟨rfl, (Qa BB1).1⟩
 have hcl := Qa H2 _ (Qa BB1).1
 go_wp2_with fail
 refine hcl.mono ?_
 clear hcl
 rintro en w2 ⟨rfl, b2⟩
 obtain ⟨bb, na, nb⟩ := Qa BB1
 have na2 := (b2.block _ (Qaf na)).trans na
 have nb2 := (b2.block _ (Qaf nb)).trans nb
 have BB2 := hide (Ya (bb.trans (b2.mono bb.size)) (Ya na2 nb2))
 obtain ⟨x_0, x_1, x_2, x_3, x_4, xf⟩ := cl5 na2
 obtain ⟨y_0, y_1, y_2, y_3, y_4, yf⟩ := cl5 nb2
 clear bb na nb b2 na2 nb2
 cases s2
 ·
  go_wp2_with fail
  go_ret
  exact ⟨rfl, (Qa BB2).1⟩
 have hcl := Qa H3 _ (Qa BB2).1
 go_wp2_with fail
 refine hcl.mono ?_
 clear hcl
 rintro en w3 ⟨rfl, b3⟩
 obtain ⟨bb, na, nb⟩ := Qa BB2
 have na3 := (b3.block _ (Qaf na)).trans na
 have nb3 := (b3.block _ (Qaf nb)).trans nb
 have BB3 := hide (Ya (bb.trans (b3.mono bb.size)) (Ya na3 nb3))
 obtain ⟨x_0, x_1, x_2, x_3, x_4, xf⟩ := cl5 na3
 obtain ⟨y_0, y_1, y_2, y_3, y_4, yf⟩ := cl5 nb3
 clear bb na nb b3 na3 nb3
 cases s3
 ·
  go_wp2_with fail
  go_ret
  exact ⟨rfl, (Qa BB3).1⟩
 have hcl := Qa H4 _ (Qa BB3).1
 go_wp2_with fail
 refine hcl.mono ?_
 clear hcl
 rintro en w4 ⟨rfl, b4⟩
 obtain ⟨bb, na, nb⟩ := Qa BB3
 have na4 := (b4.block _ (Qaf na)).trans na
 have nb4 := (b4.block _ (Qaf nb)).trans nb
 have BB4 := hide (Ya (bb.trans (b4.mono bb.size)) (Ya na4 nb4))
 obtain ⟨x_0, x_1, x_2, x_3, x_4, xf⟩ := cl5 na4
 obtain ⟨y_0, y_1, y_2, y_3, y_4, yf⟩ := cl5 nb4
 clear bb na nb b4 na4 nb4
 cases s4
 ·
  go_wp2_with fail
  go_ret
  exact ⟨rfl, (Qa BB4).1⟩
 go_wp2_with fail
 go_ret
 exact ⟨rfl, (Qa BB4).1⟩
end
end Go.Proofs.YtccehgfecaamoaaGreatDoor
