/- syn: sameTypes, as a chain. syn: sameDecls, as a chain. syn: sameInits, as a chain. syn: sameComps, as a chain. syn: sameClauses, as a chain. syn: Same, as a chain. syn: Same, of any two programs. -/
import Derived.Test.YtjebglmpopijhaaGreatDoorMs17
import Derived.Test.YtjebglmpopijhaaGreatDoorMs18
import Derived.Test.YtjebglmpopijhaaGreatDoorMs19
set_option maxRecDepth 100000
set_option maxHeartbeats 32000000
namespace Go.Proofs.YtjebglmpopijhaaGreatDoor
section
open Go.RowKit Go.Maps
theorem Qjv {w : World} {xat : Int} {xt xu : Txt} {xa : Option Addr} {xn xc : Nat} {yat : Int} {yt yu : Txt} {ya : Option Addr} {yn yc : Nat} {s0 s1 s2 : Bool} (h0 : s0 = decide (xt = yt)) (h1 : s1 = decide (xu = yu)) (h2 : ∀ w', Below w.heap.size w w' → Calls Tryz.prog 58 #[.slice xa xn xc, .slice ya yn yc, .func (.func 59) #[] #[]] w' fun en w2 => en = .returned (.bool s2) ∧ Below w'.heap.size w' w2) :
  Calls Tryz.prog 21 #[.agg #[str xt, str xu, .slice xa xn xc, .int .i64 xat], .agg #[str yt, str yu, .slice ya yn yc, .int .i64 yat]] w fun en w' => en = .returned (.bool (s0 && s1 && s2)) ∧ Below w.heap.size w w' := by
 have B0 : Hid (Below w.heap.size w ((w.alloc (.cells #[str xt, str xu, .slice xa xn xc, .int .i64 xat] 58)).alloc (.cells #[str yt, str yu, .slice ya yn yc, .int .i64 yat] 58)) ∧ ((w.alloc (.cells #[str xt, str xu, .slice xa xn xc, .int .i64 xat] 58)).alloc (.cells #[str yt, str yu, .slice ya yn yc, .int .i64 yat] 58)).heap[w.heap.size]? = some (.cells #[str xt, str xu, .slice xa xn xc, .int .i64 xat] 58 (0, 0)) ∧ ((w.alloc (.cells #[str xt, str xu, .slice xa xn xc, .int .i64 xat] 58)).alloc (.cells #[str yt, str yu, .slice ya yn yc, .int .i64 yat] 58)).heap[w.heap.size + 1]? = some (.cells #[str yt, str yu, .slice ya yn yc, .int .i64 yat] 58 (0, 0))) := by
  refine ⟨((Below.refl _ w).alloc (Nat.le_refl _) _).alloc (by simp) _, ?_, ?_⟩
  · rw [Below.heap_alloc _ _ _ (by simp)]; exact heap_alloc_new w _
  have := heap_alloc_new (w.alloc (.cells #[str xt, str xu, .slice xa xn xc, .int .i64 xat] 58)) (.cells #[str yt, str yu, .slice ya yn yc, .int .i64 yat] 58)
  rw [show (w.alloc (.cells #[str xt, str xu, .slice xa xn xc, .int .i64 xat] 58)).heap.size = w.heap.size + 1 by simp] at this
  exact this
 have H0 := hide h0
 have H1 := hide h1
 have H2 := hide h2
 clear h0 h1 h2
 cases s0
 ·
  have g0 : (xt == yt) = false := by simpa using Qa H0
  go_enter Tryz.func21, Tryz.ntmps21
  go_wp2_with fail
  go_ret
  exact ⟨rfl, (Qa B0).1⟩
 have g0 : (xt == yt) = true := by simpa using Qa H0
 cases s1
 ·
  have g1 : (xu == yu) = false := by simpa using Qa H1
  go_enter Tryz.func21, Tryz.ntmps21
  go_wp2_with fail
  go_ret
  exact ⟨rfl, (Qa B0).1⟩
 have g1 : (xu == yu) = true := by simpa using Qa H1
 go_enter Tryz.func21, Tryz.ntmps21
 have hcl := Qa H2 _ (Qa B0).1
 go_wp2_with fail
 refine hcl.mono ?_
 clear hcl
 rintro en w2 ⟨rfl, b2⟩
 obtain ⟨bb, na, nb⟩ := Qa B0
 have na2 := (b2.block _ (Qag na)).trans na
 have nb2 := (b2.block _ (Qag nb)).trans nb
 have BB2 := hide (Ya (bb.trans (b2.mono bb.size)) (Ya na2 nb2))
 obtain ⟨x_0, x_1, x_2, x_3, xf⟩ := cl4 na2
 obtain ⟨y_0, y_1, y_2, y_3, yf⟩ := cl4 nb2
 clear bb na nb b2 na2 nb2
 cases s2
 ·
  go_wp2_with fail
  go_ret
  exact ⟨rfl, (Qa BB2).1⟩
 go_wp2_with fail
 go_ret
 exact ⟨rfl, (Qa BB2).1⟩
end
section
open Go.RowKit Go.Maps
theorem Qjs {w : World} {xat : Int} {xt : Txt} {xi xo : Bool} {xa : Option Addr} {xn xc : Nat} {yat : Int} {yt : Txt} {yi yo : Bool} {ya : Option Addr} {yn yc : Nat} {s0 s1 s2 s3 : Bool} (h0 : s0 = decide (xt = yt)) (h1 : ∀ w', Below w.heap.size w w' → Calls Tryz.prog 60 #[.slice xa xn xc, .slice ya yn yc] w' fun en w2 => en = .returned (.bool s1) ∧ Below w'.heap.size w' w2) (h2 : s2 = decide (xi = yi)) (h3 : s3 = decide (xo = yo)) :
  Calls Tryz.prog 23 #[.agg #[str xt, .slice xa xn xc, .bool xi, .bool xo, .int .i64 xat], .agg #[str yt, .slice ya yn yc, .bool yi, .bool yo, .int .i64 yat]] w fun en w' => en = .returned (.bool (s0 && s1 && s2 && s3)) ∧ Below w.heap.size w w' := by
 have B0 : Hid (Below w.heap.size w ((w.alloc (.cells #[str xt, .slice xa xn xc, .bool xi, .bool xo, .int .i64 xat] 63)).alloc (.cells #[str yt, .slice ya yn yc, .bool yi, .bool yo, .int .i64 yat] 63)) ∧ ((w.alloc (.cells #[str xt, .slice xa xn xc, .bool xi, .bool xo, .int .i64 xat] 63)).alloc (.cells #[str yt, .slice ya yn yc, .bool yi, .bool yo, .int .i64 yat] 63)).heap[w.heap.size]? = some (.cells #[str xt, .slice xa xn xc, .bool xi, .bool xo, .int .i64 xat] 63 (0, 0)) ∧ ((w.alloc (.cells #[str xt, .slice xa xn xc, .bool xi, .bool xo, .int .i64 xat] 63)).alloc (.cells #[str yt, .slice ya yn yc, .bool yi, .bool yo, .int .i64 yat] 63)).heap[w.heap.size + 1]? = some (.cells #[str yt, .slice ya yn yc, .bool yi, .bool yo, .int .i64 yat] 63 (0, 0))) := by
  refine ⟨((Below.refl _ w).alloc (Nat.le_refl _) _).alloc (by simp) _, ?_, ?_⟩
  · rw [Below.heap_alloc _ _ _ (by simp)]; exact heap_alloc_new w _
  have := heap_alloc_new (w.alloc (.cells #[str xt, .slice xa xn xc, .bool xi, .bool xo, .int .i64 xat] 63)) (.cells #[str yt, .slice ya yn yc, .bool yi, .bool yo, .int .i64 yat] 63)
  rw [show (w.alloc (.cells #[str xt, .slice xa xn xc, .bool xi, .bool xo, .int .i64 xat] 63)).heap.size = w.heap.size + 1 by simp] at this
  exact this
 have H0 := hide h0
 have H1 := hide h1
 have H2 := hide h2
 have H3 := hide h3
 clear h0 h1 h2 h3
 cases s0
 ·
  have g0 : (xt == yt) = false := by simpa using Qa H0
  go_enter Tryz.func23, Tryz.ntmps23
  go_wp2_with fail
  go_ret
  exact ⟨rfl, (Qa B0).1⟩
 have g0 : (xt == yt) = true := by simpa using Qa H0
 go_enter Tryz.func23, Tryz.ntmps23
 have hcl := Qa H1 _ (Qa B0).1
 go_wp2_with fail
 refine hcl.mono ?_
 clear hcl
 rintro en w1 ⟨rfl, b1⟩
 obtain ⟨bb, na, nb⟩ := Qa B0
 have na1 := (b1.block _ (Qag na)).trans na
 have nb1 := (b1.block _ (Qag nb)).trans nb
 have BB1 := hide (Ya (bb.trans (b1.mono bb.size)) (Ya na1 nb1))
 obtain ⟨x_0, x_1, x_2, x_3, x_4, xf⟩ := cl5 na1
 obtain ⟨y_0, y_1, y_2, y_3, y_4, yf⟩ := cl5 nb1
 clear bb na nb b1 na1 nb1
 cases s1
 ·
  go_wp2_with fail
  go_ret
  exact ⟨rfl, (Qa BB1).1⟩
 cases s2
 ·
  have g2 : (xi == yi) = false := by simpa using Qa H2
  go_wp2_with fail
  go_ret
  exact ⟨rfl, (Qa BB1).1⟩
 have g2 : (xi == yi) = true := by simpa using Qa H2
 cases s3
 ·
  have g3 : (xo == yo) = false := by simpa using Qa H3
  go_wp2_with fail
  go_ret
  exact ⟨rfl, (Qa BB1).1⟩
 have g3 : (xo == yo) = true := by simpa using Qa H3
 go_wp2_with fail
 go_ret
 exact ⟨rfl, (Qa BB1).1⟩
end
section
open Go.RowKit Go.Maps
theorem Qju {w : World} {xat : Int} {xt xu : Txt} {yat : Int} {yt yu : Txt} {s0 s1 : Bool} (h0 : s0 = decide (xt = yt)) (h1 : s1 = decide (xu = yu)) :
  Calls Tryz.prog 27 #[.agg #[str xt, str xu, .int .i64 xat], .agg #[str yt, str yu, .int .i64 yat]] w fun en w' => en = .returned (.bool (s0 && s1)) ∧ Below w.heap.size w w' := by
 have B0 : Hid (Below w.heap.size w ((w.alloc (.cells #[str xt, str xu, .int .i64 xat] 72)).alloc (.cells #[str yt, str yu, .int .i64 yat] 72)) ∧ ((w.alloc (.cells #[str xt, str xu, .int .i64 xat] 72)).alloc (.cells #[str yt, str yu, .int .i64 yat] 72)).heap[w.heap.size]? = some (.cells #[str xt, str xu, .int .i64 xat] 72 (0, 0)) ∧ ((w.alloc (.cells #[str xt, str xu, .int .i64 xat] 72)).alloc (.cells #[str yt, str yu, .int .i64 yat] 72)).heap[w.heap.size + 1]? = some (.cells #[str yt, str yu, .int .i64 yat] 72 (0, 0))) := by
  refine ⟨((Below.refl _ w).alloc (Nat.le_refl _) _).alloc (by simp) _, ?_, ?_⟩
  · rw [Below.heap_alloc _ _ _ (by simp)]; exact heap_alloc_new w _
  have := heap_alloc_new (w.alloc (.cells #[str xt, str xu, .int .i64 xat] 72)) (.cells #[str yt, str yu, .int .i64 yat] 72)
  rw [show (w.alloc (.cells #[str xt, str xu, .int .i64 xat] 72)).heap.size = w.heap.size + 1 by simp] at this
  exact this
 have H0 := hide h0
 have H1 := hide h1
 clear h0 h1
 cases s0
 ·
  have g0 : (xt == yt) = false := by simpa using Qa H0
  go_enter Tryz.func27, Tryz.ntmps27
  go_wp2_with fail
  go_ret
  exact ⟨rfl, (Qa B0).1⟩
 have g0 : (xt == yt) = true := by simpa using Qa H0
 cases s1
 ·
  have g1 : (xu == yu) = false := by simpa using Qa H1
  go_enter Tryz.func27, Tryz.ntmps27
  go_wp2_with fail
  go_ret
  exact ⟨rfl, (Qa B0).1⟩
 have g1 : (xu == yu) = true := by simpa using Qa H1
 go_enter Tryz.func27, Tryz.ntmps27
 go_wp2_with fail
 go_ret
 exact ⟨rfl, (Qa B0).1⟩
end
section
open Go.RowKit Go.Maps
theorem Qjq {w : World} {xat : Int} {xt : Txt} {xa : Option Addr} {xn xc : Nat} {x0a : Option Addr} {x0n x0c : Nat} {x1a : Option Addr} {x1n x1c : Nat} {x2a : Option Addr} {x2n x2c : Nat} {x3a : Option Addr} {x3n x3c : Nat} {x4a : Option Addr} {x4n x4c : Nat} {yat : Int} {yt : Txt} {ya : Option Addr} {yn yc : Nat} {y0a : Option Addr} {y0n y0c : Nat} {y1a : Option Addr} {y1n y1c : Nat} {y2a : Option Addr} {y2n y2c : Nat} {y3a : Option Addr} {y3n y3c : Nat} {y4a : Option Addr} {y4n y4c : Nat} {s0 s1 s2 : Bool} (h0 : s0 = decide (xt = yt)) (h1 : ∀ w', Below w.heap.size w w' → Calls Tryz.prog 61 #[.slice xa xn xc, .slice ya yn yc] w' fun en w2 => en = .returned (.bool s1) ∧ Below w'.heap.size w' w2) (h2 : ∀ w', Below w.heap.size w w' → Calls Tryz.prog 7 #[.agg #[.slice x0a x0n x0c, .slice x1a x1n x1c, .slice x2a x2n x2c, .slice x3a x3n x3c, .slice x4a x4n x4c], .agg #[.slice y0a y0n y0c, .slice y1a y1n y1c, .slice y2a y2n y2c, .slice y3a y3n y3c, .slice y4a y4n y4c]] w' fun en w2 => en = .returned (.bool s2) ∧ Below w'.heap.size w' w2) :
  Calls Tryz.prog 25 #[.agg #[str xt, .slice xa xn xc, .slice x0a x0n x0c, .slice x1a x1n x1c, .slice x2a x2n x2c, .slice x3a x3n x3c, .slice x4a x4n x4c, .int .i64 xat], .agg #[str yt, .slice ya yn yc, .slice y0a y0n y0c, .slice y1a y1n y1c, .slice y2a y2n y2c, .slice y3a y3n y3c, .slice y4a y4n y4c, .int .i64 yat]] w fun en w' => en = .returned (.bool (s0 && s1 && s2)) ∧ Below w.heap.size w w' := by
 have B0 : Hid (Below w.heap.size w ((w.alloc (.cells #[str xt, .slice xa xn xc, .slice x0a x0n x0c, .slice x1a x1n x1c, .slice x2a x2n x2c, .slice x3a x3n x3c, .slice x4a x4n x4c, .int .i64 xat] 68)).alloc (.cells #[str yt, .slice ya yn yc, .slice y0a y0n y0c, .slice y1a y1n y1c, .slice y2a y2n y2c, .slice y3a y3n y3c, .slice y4a y4n y4c, .int .i64 yat] 68)) ∧ ((w.alloc (.cells #[str xt, .slice xa xn xc, .slice x0a x0n x0c, .slice x1a x1n x1c, .slice x2a x2n x2c, .slice x3a x3n x3c, .slice x4a x4n x4c, .int .i64 xat] 68)).alloc (.cells #[str yt, .slice ya yn yc, .slice y0a y0n y0c, .slice y1a y1n y1c, .slice y2a y2n y2c, .slice y3a y3n y3c, .slice y4a y4n y4c, .int .i64 yat] 68)).heap[w.heap.size]? = some (.cells #[str xt, .slice xa xn xc, .slice x0a x0n x0c, .slice x1a x1n x1c, .slice x2a x2n x2c, .slice x3a x3n x3c, .slice x4a x4n x4c, .int .i64 xat] 68 (0, 0)) ∧ ((w.alloc (.cells #[str xt, .slice xa xn xc, .slice x0a x0n x0c, .slice x1a x1n x1c, .slice x2a x2n x2c, .slice x3a x3n x3c, .slice x4a x4n x4c, .int .i64 xat] 68)).alloc (.cells #[str yt, .slice ya yn yc, .slice y0a y0n y0c, .slice y1a y1n y1c, .slice y2a y2n y2c, .slice y3a y3n y3c, .slice y4a y4n y4c, .int .i64 yat] 68)).heap[w.heap.size + 1]? = some (.cells #[str yt, .slice ya yn yc, .slice y0a y0n y0c, .slice y1a y1n y1c, .slice y2a y2n y2c, .slice y3a y3n y3c, .slice y4a y4n y4c, .int .i64 yat] 68 (0, 0))) := by
  refine ⟨((Below.refl _ w).alloc (Nat.le_refl _) _).alloc (by simp) _, ?_, ?_⟩
  · rw [Below.heap_alloc _ _ _ (by simp)]; exact heap_alloc_new w _
  have := heap_alloc_new (w.alloc (.cells #[str xt, .slice xa xn xc, .slice x0a x0n x0c, .slice x1a x1n x1c, .slice x2a x2n x2c, .slice x3a x3n x3c, .slice x4a x4n x4c, .int .i64 xat] 68)) (.cells #[str yt, .slice ya yn yc, .slice y0a y0n y0c, .slice y1a y1n y1c, .slice y2a y2n y2c, .slice y3a y3n y3c, .slice y4a y4n y4c, .int .i64 yat] 68)
  rw [show (w.alloc (.cells #[str xt, .slice xa xn xc, .slice x0a x0n x0c, .slice x1a x1n x1c, .slice x2a x2n x2c, .slice x3a x3n x3c, .slice x4a x4n x4c, .int .i64 xat] 68)).heap.size = w.heap.size + 1 by simp] at this
  exact this
 have H0 := hide h0
 have H1 := hide h1
 have H2 := hide h2
 clear h0 h1 h2
 cases s0
 ·
  have g0 : (xt == yt) = false := by simpa using Qa H0
  go_enter Tryz.func25, Tryz.ntmps25
  go_wp2_with fail
  go_ret
  exact ⟨rfl, (Qa B0).1⟩
 have g0 : (xt == yt) = true := by simpa using Qa H0
 go_enter Tryz.func25, Tryz.ntmps25
 have hcl := Qa H1 _ (Qa B0).1
 go_wp2_with fail
 refine hcl.mono ?_
 clear hcl
 rintro en w1 ⟨rfl, b1⟩
 obtain ⟨bb, na, nb⟩ := Qa B0
 have na1 := (b1.block _ (Qag na)).trans na
 have nb1 := (b1.block _ (Qag nb)).trans nb
 have BB1 := hide (Ya (bb.trans (b1.mono bb.size)) (Ya na1 nb1))
 obtain ⟨x_0, x_1, x_2, x_3, x_4, x_5, x_6, x_7, xf⟩ := cl8 na1
 obtain ⟨y_0, y_1, y_2, y_3, y_4, y_5, y_6, y_7, yf⟩ := cl8 nb1
 clear bb na nb b1 na1 nb1
 cases s1
 ·
  go_wp2_with fail
  go_ret
  exact ⟨rfl, (Qa BB1).1⟩
 have hcl := Qa H2 _ (Qa BB1).1
 go_wp2_with fail
 refine hcl.mono ?_
 clear hcl
 rintro en w2 ⟨rfl, b2⟩
 obtain ⟨bb, na, nb⟩ := Qa BB1
 have na2 := (b2.block _ (Qag na)).trans na
 have nb2 := (b2.block _ (Qag nb)).trans nb
 have BB2 := hide (Ya (bb.trans (b2.mono bb.size)) (Ya na2 nb2))
 obtain ⟨x_0, x_1, x_2, x_3, x_4, x_5, x_6, x_7, xf⟩ := cl8 na2
 obtain ⟨y_0, y_1, y_2, y_3, y_4, y_5, y_6, y_7, yf⟩ := cl8 nb2
 clear bb na nb b2 na2 nb2
 cases s2
 ·
  go_wp2_with fail
  go_ret
  exact ⟨rfl, (Qa BB2).1⟩
 go_wp2_with fail
 go_ret
 exact ⟨rfl, (Qa BB2).1⟩
end
section
open Go.RowKit Go.Maps
theorem Qha {w : World} {xat xat1 : Int} {xt : Txt} {xa x1a : Option Addr} {xn xc x1n x1c : Nat} {yat yat1 : Int} {yt : Txt} {ya y1a : Option Addr} {yn yc y1n y1c : Nat} {s0 s1 : Bool} (h0 : ∀ w', Below w.heap.size w w' → Calls Tryz.prog 62 #[.agg #[str xt, .slice xa xn xc, .int .i64 xat], .agg #[str yt, .slice ya yn yc, .int .i64 yat]] w' fun en w2 => en = .returned (.bool s0) ∧ Below w'.heap.size w' w2) (h1 : ∀ w', Below w.heap.size w w' → Calls Tryz.prog 63 #[.slice x1a x1n x1c, .slice y1a y1n y1c, .func (.func 64) #[] #[]] w' fun en w2 => en = .returned (.bool s1) ∧ Below w'.heap.size w' w2) :
  Calls Tryz.prog 29 #[.agg #[str xt, .slice xa xn xc, .int .i64 xat, .slice x1a x1n x1c, .int .i64 xat1], .agg #[str yt, .slice ya yn yc, .int .i64 yat, .slice y1a y1n y1c, .int .i64 yat1]] w fun en w' => en = .returned (.bool (s0 && s1)) ∧ Below w.heap.size w w' := by
 have B0 : Hid (Below w.heap.size w ((w.alloc (.cells #[str xt, .slice xa xn xc, .int .i64 xat, .slice x1a x1n x1c, .int .i64 xat1] 80)).alloc (.cells #[str yt, .slice ya yn yc, .int .i64 yat, .slice y1a y1n y1c, .int .i64 yat1] 80)) ∧ ((w.alloc (.cells #[str xt, .slice xa xn xc, .int .i64 xat, .slice x1a x1n x1c, .int .i64 xat1] 80)).alloc (.cells #[str yt, .slice ya yn yc, .int .i64 yat, .slice y1a y1n y1c, .int .i64 yat1] 80)).heap[w.heap.size]? = some (.cells #[str xt, .slice xa xn xc, .int .i64 xat, .slice x1a x1n x1c, .int .i64 xat1] 80 (0, 0)) ∧ ((w.alloc (.cells #[str xt, .slice xa xn xc, .int .i64 xat, .slice x1a x1n x1c, .int .i64 xat1] 80)).alloc (.cells #[str yt, .slice ya yn yc, .int .i64 yat, .slice y1a y1n y1c, .int .i64 yat1] 80)).heap[w.heap.size + 1]? = some (.cells #[str yt, .slice ya yn yc, .int .i64 yat, .slice y1a y1n y1c, .int .i64 yat1] 80 (0, 0))) := by
  refine ⟨((Below.refl _ w).alloc (Nat.le_refl _) _).alloc (by simp) _, ?_, ?_⟩
  · rw [Below.heap_alloc _ _ _ (by simp)]; exact heap_alloc_new w _
  have := heap_alloc_new (w.alloc (.cells #[str xt, .slice xa xn xc, .int .i64 xat, .slice x1a x1n x1c, .int .i64 xat1] 80)) (.cells #[str yt, .slice ya yn yc, .int .i64 yat, .slice y1a y1n y1c, .int .i64 yat1] 80)
  rw [show (w.alloc (.cells #[str xt, .slice xa xn xc, .int .i64 xat, .slice x1a x1n x1c, .int .i64 xat1] 80)).heap.size = w.heap.size + 1 by simp] at this
  exact this
 have H0 := hide h0
 have H1 := hide h1
 clear h0 h1
 go_enter Tryz.func29, Tryz.ntmps29
 have hcl := Qa H0 _ (Qa B0).1
 go_wp2_with fail
 refine hcl.mono ?_
 clear hcl
 rintro en w0 ⟨rfl, b0⟩
 obtain ⟨bb, na, nb⟩ := Qa B0
 have na0 := (b0.block _ (Qag na)).trans na
 have nb0 := (b0.block _ (Qag nb)).trans nb
 have BB0 := hide (Ya (bb.trans (b0.mono bb.size)) (Ya na0 nb0))
 obtain ⟨x_0, x_1, x_2, x_3, x_4, xf⟩ := cl5 na0
 obtain ⟨y_0, y_1, y_2, y_3, y_4, yf⟩ := cl5 nb0
 clear bb na nb b0 na0 nb0
 cases s0
 ·
  go_wp2_with fail
  go_ret
  exact ⟨rfl, (Qa BB0).1⟩
 have hcl := Qa H1 _ (Qa BB0).1
 go_wp2_with fail
 refine hcl.mono ?_
 clear hcl
 rintro en w1 ⟨rfl, b1⟩
 obtain ⟨bb, na, nb⟩ := Qa BB0
 have na1 := (b1.block _ (Qag na)).trans na
 have nb1 := (b1.block _ (Qag nb)).trans nb
 have BB1 := hide (Ya (bb.trans (b1.mono bb.size)) (Ya na1 nb1))
 obtain ⟨x_0, x_1, x_2, x_3, x_4, xf⟩ := cl5 na1
 obtain ⟨y_0, y_1, y_2, y_3, y_4, yf⟩ := cl5 nb1
 clear bb na nb b1 na1 nb1
 cases s1
 ·
  go_wp2_with fail
  go_ret
  exact ⟨rfl, (Qa BB1).1⟩
 go_wp2_with fail
 go_ret
 exact ⟨rfl, (Qa BB1).1⟩
end
section
open Go.RowKit Go.Maps
theorem Same_ch {w : World}  {x0a : Option Addr} {x0n x0c : Nat} {x1a : Option Addr} {x1n x1c : Nat} {x2a : Option Addr} {x2n x2c : Nat} {x3a : Option Addr} {x3n x3c : Nat} {x4a : Option Addr} {x4n x4c : Nat}  {y0a : Option Addr} {y0n y0c : Nat} {y1a : Option Addr} {y1n y1c : Nat} {y2a : Option Addr} {y2n y2c : Nat} {y3a : Option Addr} {y3n y3c : Nat} {y4a : Option Addr} {y4n y4c : Nat} {s0 s1 s2 s3 s4 : Bool} (h0 : ∀ w', Below w.heap.size w w' → Calls Tryz.prog 20 #[.slice x0a x0n x0c, .slice y0a y0n y0c, .func (.func 21) #[] #[]] w' fun en w2 => en = .returned (.bool s0) ∧ Below w'.heap.size w' w2) (h1 : ∀ w', Below w.heap.size w w' → Calls Tryz.prog 22 #[.slice x1a x1n x1c, .slice y1a y1n y1c, .func (.func 23) #[] #[]] w' fun en w2 => en = .returned (.bool s1) ∧ Below w'.heap.size w' w2) (h2 : ∀ w', Below w.heap.size w w' → Calls Tryz.prog 24 #[.slice x2a x2n x2c, .slice y2a y2n y2c, .func (.func 25) #[] #[]] w' fun en w2 => en = .returned (.bool s2) ∧ Below w'.heap.size w' w2) (h3 : ∀ w', Below w.heap.size w w' → Calls Tryz.prog 26 #[.slice x3a x3n x3c, .slice y3a y3n y3c, .func (.func 27) #[] #[]] w' fun en w2 => en = .returned (.bool s3) ∧ Below w'.heap.size w' w2) (h4 : ∀ w', Below w.heap.size w w' → Calls Tryz.prog 28 #[.slice x4a x4n x4c, .slice y4a y4n y4c, .func (.func 29) #[] #[]] w' fun en w2 => en = .returned (.bool s4) ∧ Below w'.heap.size w' w2) :
  Calls Tryz.prog 7 #[.agg #[.slice x0a x0n x0c, .slice x1a x1n x1c, .slice x2a x2n x2c, .slice x3a x3n x3c, .slice x4a x4n x4c], .agg #[.slice y0a y0n y0c, .slice y1a y1n y1c, .slice y2a y2n y2c, .slice y3a y3n y3c, .slice y4a y4n y4c]] w fun en w' => en = .returned (.bool (s0 && s1 && s2 && s3 && s4)) ∧ Below w.heap.size w w' := by
 have B0 : Hid (Below w.heap.size w ((w.alloc (.cells #[.slice x0a x0n x0c, .slice x1a x1n x1c, .slice x2a x2n x2c, .slice x3a x3n x3c, .slice x4a x4n x4c] 28)).alloc (.cells #[.slice y0a y0n y0c, .slice y1a y1n y1c, .slice y2a y2n y2c, .slice y3a y3n y3c, .slice y4a y4n y4c] 28)) ∧ ((w.alloc (.cells #[.slice x0a x0n x0c, .slice x1a x1n x1c, .slice x2a x2n x2c, .slice x3a x3n x3c, .slice x4a x4n x4c] 28)).alloc (.cells #[.slice y0a y0n y0c, .slice y1a y1n y1c, .slice y2a y2n y2c, .slice y3a y3n y3c, .slice y4a y4n y4c] 28)).heap[w.heap.size]? = some (.cells #[.slice x0a x0n x0c, .slice x1a x1n x1c, .slice x2a x2n x2c, .slice x3a x3n x3c, .slice x4a x4n x4c] 28 (0, 0)) ∧ ((w.alloc (.cells #[.slice x0a x0n x0c, .slice x1a x1n x1c, .slice x2a x2n x2c, .slice x3a x3n x3c, .slice x4a x4n x4c] 28)).alloc (.cells #[.slice y0a y0n y0c, .slice y1a y1n y1c, .slice y2a y2n y2c, .slice y3a y3n y3c, .slice y4a y4n y4c] 28)).heap[w.heap.size + 1]? = some (.cells #[.slice y0a y0n y0c, .slice y1a y1n y1c, .slice y2a y2n y2c, .slice y3a y3n y3c, .slice y4a y4n y4c] 28 (0, 0))) := by
  refine ⟨((Below.refl _ w).alloc (Nat.le_refl _) _).alloc (by simp) _, ?_, ?_⟩
  · rw [Below.heap_alloc _ _ _ (by simp)]; exact heap_alloc_new w _
  have := heap_alloc_new (w.alloc (.cells #[.slice x0a x0n x0c, .slice x1a x1n x1c, .slice x2a x2n x2c, .slice x3a x3n x3c, .slice x4a x4n x4c] 28)) (.cells #[.slice y0a y0n y0c, .slice y1a y1n y1c, .slice y2a y2n y2c, .slice y3a y3n y3c, .slice y4a y4n y4c] 28)
  rw [show (w.alloc (.cells #[.slice x0a x0n x0c, .slice x1a x1n x1c, .slice x2a x2n x2c, .slice x3a x3n x3c, .slice x4a x4n x4c] 28)).heap.size = w.heap.size + 1 by simp] at this
  exact this
 have H0 := hide h0
 have H1 := hide h1
 have H2 := hide h2
 have H3 := hide h3
 have H4 := hide h4
 clear h0 h1 h2 h3 h4
 go_enter Tryz.func7, Tryz.ntmps7
 have hcl := Qa H0 _ (Qa B0).1
 go_wp2_with fail
 refine hcl.mono ?_
 clear hcl
 rintro en w0 ⟨rfl, b0⟩
 obtain ⟨bb, na, nb⟩ := Qa B0
 have na0 := (b0.block _ (Qag na)).trans na
 have nb0 := (b0.block _ (Qag nb)).trans nb
 have BB0 := hide (Ya (bb.trans (b0.mono bb.size)) (Ya na0 nb0))
 obtain ⟨x_0, x_1, x_2, x_3, x_4, xf⟩ := cl5 na0
 obtain ⟨y_0, y_1, y_2, y_3, y_4, yf⟩ := cl5 nb0
 clear bb na nb b0 na0 nb0
 cases s0
 ·
  go_wp2_with fail
  go_ret
  exact ⟨rfl, (Qa BB0).1⟩
 have hcl := Qa H1 _ (Qa BB0).1
 go_wp2_with fail
 refine hcl.mono ?_
 clear hcl
 rintro en w1 ⟨rfl, b1⟩
 obtain ⟨bb, na, nb⟩ := Qa BB0
 have na1 := (b1.block _ (Qag na)).trans na
 have nb1 := (b1.block _ (Qag nb)).trans nb
 have BB1 := hide (Ya (bb.trans (b1.mono bb.size)) (Ya na1 nb1))
 obtain ⟨x_0, x_1, x_2, x_3, x_4, xf⟩ := cl5 na1
 obtain ⟨y_0, y_1, y_2, y_3, y_4, yf⟩ := cl5 nb1
 clear bb na nb b1 na1 nb1
 cases s1
 ·
  go_wp2_with fail
  go_ret
  exact ⟨rfl, (Qa BB1).1⟩
 have hcl := Qa H2 _ (Qa BB1).1
 go_wp2_with fail
 refine hcl.mono ?_
 clear hcl
 rintro en w2 ⟨rfl, b2⟩
 obtain ⟨bb, na, nb⟩ := Qa BB1
 have na2 := (b2.block _ (Qag na)).trans na
 have nb2 := (b2.block _ (Qag nb)).trans nb
 have BB2 := hide (Ya (bb.trans (b2.mono bb.size)) (Ya na2 nb2))
 obtain ⟨x_0, x_1, x_2, x_3, x_4, xf⟩ := cl5 na2
 obtain ⟨y_0, y_1, y_2, y_3, y_4, yf⟩ := cl5 nb2
 clear bb na nb b2 na2 nb2
 cases s2
 ·
  go_wp2_with fail
  go_ret
  exact ⟨rfl, (Qa BB2).1⟩
 have hcl := Qa H3 _ (Qa BB2).1
 go_wp2_with fail
 refine hcl.mono ?_
 clear hcl
 rintro en w3 ⟨rfl, b3⟩
 obtain ⟨bb, na, nb⟩ := Qa BB2
 have na3 := (b3.block _ (Qag na)).trans na
 have nb3 := (b3.block _ (Qag nb)).trans nb
 have BB3 := hide (Ya (bb.trans (b3.mono bb.size)) (Ya na3 nb3))
 obtain ⟨x_0, x_1, x_2, x_3, x_4, xf⟩ := cl5 na3
 obtain ⟨y_0, y_1, y_2, y_3, y_4, yf⟩ := cl5 nb3
 clear bb na nb b3 na3 nb3
 cases s3
 ·
  go_wp2_with fail
  go_ret
  exact ⟨rfl, (Qa BB3).1⟩
 have hcl := Qa H4 _ (Qa BB3).1
 go_wp2_with fail
 refine hcl.mono ?_
 clear hcl
 rintro en w4 ⟨rfl, b4⟩
 obtain ⟨bb, na, nb⟩ := Qa BB3
 have na4 := (b4.block _ (Qag na)).trans na
 have nb4 := (b4.block _ (Qag nb)).trans nb
 have BB4 := hide (Ya (bb.trans (b4.mono bb.size)) (Ya na4 nb4))
 obtain ⟨x_0, x_1, x_2, x_3, x_4, xf⟩ := cl5 na4
 obtain ⟨y_0, y_1, y_2, y_3, y_4, yf⟩ := cl5 nb4
 clear bb na nb b4 na4 nb4
 cases s4
 ·
  go_wp2_with fail
  go_ret
  exact ⟨rfl, (Qa BB4).1⟩
 go_wp2_with fail
 go_ret
 exact ⟨rfl, (Qa BB4).1⟩
end
section
open Go.RowKit Go.Maps
mutual
def eqE : Ex → Ex → Bool
 | .mk k n s ks _, .mk k' n' s' ks' _ => decide (k = k') && decide (n = n') && decide (s = s') && eqEs ks ks'
def eqEs : List Ex → List Ex → Bool
 | [], [] => true
 | x :: xs, y :: ys => eqE x y && eqEs xs ys
 | _, _ => false
end
theorem Qeh {α : Type} (eq : α → α → Bool) (x y : α) (xs ys : List α) : eqL eq (x :: xs) (y :: ys) = (eq x y && eqL eq xs ys) := by
 unfold eqL
 simp only [List.length_cons, List.zip_cons_cons, List.all_cons, Nat.add_right_cancel_iff]
 cases eq x y <;> simp
theorem Qnv : ∀ xs ys : List Ex, eqEs xs ys = eqL eqE xs ys
 | [], [] => by simp [eqEs, eqL]
 | [], y :: ys => by simp [eqEs, eqL]
 | x :: xs, [] => by simp [eqEs, eqL]
 | x :: xs, y :: ys => by rw [Qeh, eqEs, Qnv xs ys]
theorem Qsz (x y : Ex) : eqE x y = (decide (x.kind = y.kind) && decide (x.num = y.num) && decide (x.txt = y.txt) && eqL eqE x.kids y.kids) := by
 cases x with
 | mk k n s ks a =>
  cases y with
  | mk k' n' s' ks' a' => rw [eqE, Qnv]; rfl
def eqA (x y : Atm) : Bool := decide (x.rel = y.rel) && eqL eqE x.args y.args
def eqLt (x y : Lt) : Bool := decide (x.kind = y.kind) && eqA x.atom y.atom && decide (x.op = y.op) && eqE x.l y.l && eqE x.r y.r
def eqCt (x y : Ctr) : Bool := decide (x.name = y.name) && eqL eqFd x.fields y.fields
def eqTy (x y : Typ) : Bool := decide (x.name = y.name) && decide (x.sub = y.sub) && eqL eqCt x.ctors y.ctors
def eqDc (x y : Dcl) : Bool := decide (x.name = y.name) && eqL eqFd x.cols y.cols && decide (x.input = y.input) && decide (x.output = y.output)
def eqIn (x y : Ini) : Bool := decide (x.name = y.name) && decide (x.comp = y.comp)
def eqCl (x y : Cls) : Bool := eqA x.head y.head && eqL eqLt x.body y.body
mutual
def eqPg : Pg → Pg → Bool
 | .mk ts ds cs is ls, .mk ts' ds' cs' is' ls' => eqL eqTy ts ts' && eqL eqDc ds ds' && eqCps cs cs' && eqL eqIn is is' && eqL eqCl ls ls'
def eqCps : List Cp → List Cp → Bool
 | [], [] => true
 | (n, bs, p, _) :: xs, (n', bs', p', _) :: ys => (decide (n = n') && eqL eqTx bs bs' && eqPg p p') && eqCps xs ys
 | _, _ => false
end
def eqCp (x y : Cp) : Bool := decide (x.1 = y.1) && eqL eqTx x.2.1 y.2.1 && eqPg x.2.2.1 y.2.2.1
theorem Qlm : ∀ xs ys : List Cp, eqCps xs ys = eqL eqCp xs ys
 | [], [] => by simp [eqCps, eqL]
 | [], y :: ys => by simp [eqCps, eqL]
 | x :: xs, [] => by simp [eqCps, eqL]
 | (n, bs, p, a) :: xs, (n', bs', p', a') :: ys => by rw [Qeh, eqCps, Qlm xs ys]; rfl
theorem Qcx (p q : Pg) : eqPg p q = (eqL eqTy p.types q.types && eqL eqDc p.decls q.decls && eqL eqCp p.comps q.comps && eqL eqIn p.inits q.inits && eqL eqCl p.clauses q.clauses) := by
 cases p
 cases q
 rw [eqPg, Qlm]
 rfl

theorem Qof (S : Nat → Prop) (w : World) (cs : List Value) (x : Ex) (h : PE S w cs x) : ∀ c ∈ cs, c.oneCell' = true := by
 obtain ⟨v, rfl, ⟨ao, cap, rfl⟩, _⟩ := h.cells
 simp [Value.oneCell', str]
theorem pc_one (S : Nat → Prop) (w : World) (cs : List Value) (x : Ctr) (h : PC S w cs x) : ∀ c ∈ cs, c.oneCell' = true := by
 obtain ⟨_, _, _, rfl, _⟩ := h
 simp [Value.oneCell', str]
theorem pty_one (S : Nat → Prop) (w : World) (cs : List Value) (x : Typ) (h : PTy S w cs x) : ∀ c ∈ cs, c.oneCell' = true := by
 obtain ⟨_, _, _, rfl, _⟩ := h
 simp [Value.oneCell', str]
theorem pdc_one (S : Nat → Prop) (w : World) (cs : List Value) (x : Dcl) (h : PDc S w cs x) : ∀ c ∈ cs, c.oneCell' = true := by
 obtain ⟨_, _, _, rfl, _⟩ := h
 simp [Value.oneCell', str]
theorem pin_one (S : Nat → Prop) (w : World) (cs : List Value) (x : Ini) (h : PIn S w cs x) : ∀ c ∈ cs, c.oneCell' = true := by
 have e : cs = _ := h
 subst e
 simp [Value.oneCell', str]
theorem pcl_one (S : Nat → Prop) (w : World) (cs : List Value) (x : Cls) (h : PCl S w cs x) : ∀ c ∈ cs, c.oneCell' = true := by
 obtain ⟨_, _, _, _, _, _, rfl, _⟩ := h
 simp [Value.oneCell', str]
theorem list5 {a b c d e a' b' c' d' e' : Value} (h : [a, b, c, d, e] = [a', b', c', d', e']) : a = a' ∧ b = b' ∧ c = c' ∧ d = d' ∧ e = e' := by simpa using h

theorem Qez (x : Ex) : ∀ (y : Ex) (S : Nat → Prop) (w : World) (c0 c1 c2 c3 c4 d0 d1 d2 d3 d4 : Value), ExS S w [c0, c1, c2, c3, c4] x → ExS S w [d0, d1, d2, d3, d4] y →
  Calls Tryz.prog 92 #[.agg #[c0, c1, c2, c3, c4], .agg #[d0, d1, d2, d3, d4]] w fun en w' => en = .returned (.bool (eqE x y)) ∧ Below w.heap.size w w' :=
 match x with
 | .mk k n s ks a => fun y S w c0 c1 c2 c3 c4 d0 d1 d2 d3 d4 hx hy => by
  obtain ⟨v, ex, ⟨xa, xc, rfl⟩, hkx⟩ := hx.cells
  obtain ⟨u, ey, ⟨ya, yc, rfl⟩, hky⟩ := hy.cells
  simp only [List.cons.injEq, and_true] at ex ey
  obtain ⟨rfl, rfl, rfl, rfl, rfl⟩ := ex
  obtain ⟨rfl, rfl, rfl, rfl, rfl⟩ := ey
  rw [Qsz]
  refine Qjt rfl rfl rfl (fun w' hb => ?_)
  refine (eqf_e Qaf Qof eqE (hkx.later Qaf hb) (hky.later Qaf hb) (fun j x1 y1 hx1 hy1 w1 e0 e1 e2 e3 e4 f0 f1 f2 f3 f4 _ h1 h2 => ?_)).mono (fun _ _ h => h)
  have hm : x1 ∈ ks := List.mem_of_getElem? hx1
  exact Qez x1 y1 S w1 e0 e1 e2 e3 e4 f0 f1 f2 f3 f4 h1 h2
termination_by SizeOf.sizeOf x
decreasing_by
 have := List.sizeOf_lt_of_mem hm
 simp only [Ex.mk.sizeOf_spec]
 omega
theorem Qjo {x y : Atm} {S : Nat → Prop} {w : World} {xa ya : Option Addr} {xn xc yn yc : Nat} (hx : LsAt PE 5 S w (.slice xa xn xc) x.args) (hy : LsAt PE 5 S w (.slice ya yn yc) y.args) :
  Calls Tryz.prog 62 #[.agg #[str x.rel, .slice xa xn xc, .int .i64 x.at_], .agg #[str y.rel, .slice ya yn yc, .int .i64 y.at_]] w fun en w' => en = .returned (.bool (eqA x y)) ∧ Below w.heap.size w w' := by
 unfold eqA
 exact Qjp rfl (fun w' hb => eqf_e Qaf Qof eqE (hx.later Qaf hb) (hy.later Qaf hb) (fun j x1 y1 _ _ w1 e0 e1 e2 e3 e4 f0 f1 f2 f3 f4 _ h1 h2 => Qez x1 y1 S w1 e0 e1 e2 e3 e4 f0 f1 f2 f3 f4 h1 h2))
theorem Qqp {x y : Lt} {S : Nat → Prop} {w : World} {cs ds : List Value} (hx : PLt S w cs x) (hy : PLt S w ds y) :
  Calls Tryz.prog 64 #[.agg cs.toArray, .agg ds.toArray] w fun en w' => en = .returned (.bool (eqLt x y)) ∧ Below w.heap.size w w' := by
 obtain ⟨_, _, _, _, _, _, _, _, _, rfl, h1, h2, h3⟩ := hx
 obtain ⟨_, _, _, _, _, _, _, _, _, rfl, g1, g2, g3⟩ := hy
 unfold eqLt
 refine Qkx rfl (fun w' hb => ?_) rfl (fun w' hb => ?_) (fun w' hb => ?_)
 · exact Qjo (h1.later Qaf hb) (g1.later Qaf hb)
 · exact Qez _ _ S _ _ _ _ _ _ _ _ _ _ _ (Qaf.same _ _ _ _ _ h2 hb.size (fun b _ hl => hb.block b hl)) (Qaf.same _ _ _ _ _ g2 hb.size (fun b _ hl => hb.block b hl))
 · exact Qez _ _ S _ _ _ _ _ _ _ _ _ _ _ (Qaf.same _ _ _ _ _ h3 hb.size (fun b _ hl => hb.block b hl)) (Qaf.same _ _ _ _ _ g3 hb.size (fun b _ hl => hb.block b hl))
theorem Qqm {x y : Ctr} {S : Nat → Prop} {w : World} {cs ds : List Value} (hx : PC S w cs x) (hy : PC S w ds y) :
  Calls Tryz.prog 59 #[.agg cs.toArray, .agg ds.toArray] w fun en w' => en = .returned (.bool (eqCt x y)) ∧ Below w.heap.size w w' := by
 obtain ⟨_, _, _, rfl, h1⟩ := hx
 obtain ⟨_, _, _, rfl, g1⟩ := hy
 unfold eqCt
 exact Qjr rfl (fun w' hb => Qoe (h1.later Qbt hb) (g1.later Qbt hb))
theorem Qqr {x y : Typ} {S : Nat → Prop} {w : World} {cs ds : List Value} (hx : PTy S w cs x) (hy : PTy S w ds y) :
  Calls Tryz.prog 21 #[.agg cs.toArray, .agg ds.toArray] w fun en w' => en = .returned (.bool (eqTy x y)) ∧ Below w.heap.size w w' := by
 obtain ⟨_, _, _, rfl, h1⟩ := hx
 obtain ⟨_, _, _, rfl, g1⟩ := hy
 unfold eqTy
 exact Qjv rfl rfl (fun w' hb => eqf_c Qcz pc_one eqCt (h1.later Qcz hb) (g1.later Qcz hb) (fun j x1 y1 _ _ w1 e0 e1 f0 f1 _ h1 h2 => Qqm h1 h2))
theorem Qqn {x y : Dcl} {S : Nat → Prop} {w : World} {cs ds : List Value} (hx : PDc S w cs x) (hy : PDc S w ds y) :
  Calls Tryz.prog 23 #[.agg cs.toArray, .agg ds.toArray] w fun en w' => en = .returned (.bool (eqDc x y)) ∧ Below w.heap.size w w' := by
 obtain ⟨_, _, _, rfl, h1⟩ := hx
 obtain ⟨_, _, _, rfl, g1⟩ := hy
 unfold eqDc
 exact Qjs rfl (fun w' hb => Qoe (h1.later Qbt hb) (g1.later Qbt hb)) rfl rfl
theorem Qqo {x y : Ini} {S : Nat → Prop} {w : World} {cs ds : List Value} (hx : PIn S w cs x) (hy : PIn S w ds y) :
  Calls Tryz.prog 27 #[.agg cs.toArray, .agg ds.toArray] w fun en w' => en = .returned (.bool (eqIn x y)) ∧ Below w.heap.size w w' := by
 have e1 : cs = _ := hx
 have e2 : ds = _ := hy
 subst e1
 subst e2
 unfold eqIn
 exact Qju rfl rfl
theorem Qqq {x y : Cls} {S : Nat → Prop} {w : World} {cs ds : List Value} (hx : PCl S w cs x) (hy : PCl S w ds y) :
  Calls Tryz.prog 29 #[.agg cs.toArray, .agg ds.toArray] w fun en w' => en = .returned (.bool (eqCl x y)) ∧ Below w.heap.size w w' := by
 obtain ⟨_, _, _, _, _, _, rfl, h1, h2⟩ := hx
 obtain ⟨_, _, _, _, _, _, rfl, g1, g2⟩ := hy
 unfold eqCl
 exact Qha (fun w' hb => Qjo (h1.later Qaf hb) (g1.later Qaf hb)) (fun w' hb => eqf_l Qbl (fun _ _ _ _ h => Qeq h) eqLt (h2.later Qbl hb) (g2.later Qbl hb) (fun j x1 y1 _ _ w1 _ _ _ _ _ _ _ _ _ _ _ _ _ _ _ _ _ _ _ _ _ _ _ _ _ _ _ _ _ _ _ _ _ h1 h2 => Qqp h1 h2))
theorem Qdn (p : Pg) : ∀ (q : Pg) (S : Nat → Prop) (w : World) (c0 c1 c2 c3 c4 d0 d1 d2 d3 d4 : Value), PgS S w [c0, c1, c2, c3, c4] p → PgS S w [d0, d1, d2, d3, d4] q →
  Calls Tryz.prog 7 #[.agg #[c0, c1, c2, c3, c4], .agg #[d0, d1, d2, d3, d4]] w fun en w' => en = .returned (.bool (eqPg p q)) ∧ Below w.heap.size w w' :=
 match p with
 | .mk ts ds cs is ls => fun q S w c0 c1 c2 c3 c4 d0 d1 d2 d3 d4 hx hy => by
  obtain ⟨v0, v1, v2, v3, v4, ex, h0, h1, h2, h3, h4⟩ := hx.cells
  obtain ⟨u0, u1, u2, u3, u4, ey, g0, g1, g2, g3, g4⟩ := hy.cells
  obtain ⟨rfl, rfl, rfl, rfl, rfl⟩ := list5 ex
  obtain ⟨rfl, rfl, rfl, rfl, rfl⟩ := list5 ey
  obtain ⟨_, _, rfl⟩ := h0.sl
  obtain ⟨_, _, rfl⟩ := h1.sl
  obtain ⟨_, _, rfl⟩ := h2.sl
  obtain ⟨_, _, rfl⟩ := h3.sl
  obtain ⟨_, _, rfl⟩ := h4.sl
  obtain ⟨_, _, rfl⟩ := g0.sl
  obtain ⟨_, _, rfl⟩ := g1.sl
  obtain ⟨_, _, rfl⟩ := g2.sl
  obtain ⟨_, _, rfl⟩ := g3.sl
  obtain ⟨_, _, rfl⟩ := g4.sl
  rw [Qcx]
  refine Same_ch (fun w' hb => ?_) (fun w' hb => ?_) (fun w' hb => ?_) (fun w' hb => ?_) (fun w' hb => ?_)
  · exact eqf_t Qbr pty_one eqTy (h0.later Qbr hb) (g0.later Qbr hb) (fun j x1 y1 _ _ w1 _ _ _ _ _ _ _ _ _ a1 a2 => Qqr a1 a2)
  · exact eqf_d Qbq pdc_one eqDc (h1.later Qbq hb) (g1.later Qbq hb) (fun j x1 y1 _ _ w1 _ _ _ _ _ _ _ _ _ _ _ a1 a2 => Qqn a1 a2)
  ·
   refine (eqf_p Qbx (fun _ _ _ _ h => Qpx h) eqCp (h2.later Qbx hb) (g2.later Qbx hb) (fun j x1 y1 hx1 hy1 w1 _ _ _ _ _ _ _ _ _ _ _ _ _ _ _ _ _ a1 a2 => ?_)).mono (fun _ _ h => h)
   obtain ⟨vb, bd, e1, e2, e3, e4⟩ := a1
   obtain ⟨vb', bd', e1', e2', e3', e4'⟩ := a2
   obtain ⟨t0, t1, t2, t3, t4, rfl, k0, k1, k2, k3, k4⟩ := e4.cells
   obtain ⟨s0, s1, s2, s3, s4, rfl, m0, m1, m2, m3, m4⟩ := e4'.cells
   obtain ⟨_, _, rfl⟩ := e3.sl
   obtain ⟨_, _, rfl⟩ := e3'.sl
   obtain ⟨_, _, rfl⟩ := k0.sl
   obtain ⟨_, _, rfl⟩ := k1.sl
   obtain ⟨_, _, rfl⟩ := k2.sl
   obtain ⟨_, _, rfl⟩ := k3.sl
   obtain ⟨_, _, rfl⟩ := k4.sl
   obtain ⟨_, _, rfl⟩ := m0.sl
   obtain ⟨_, _, rfl⟩ := m1.sl
   obtain ⟨_, _, rfl⟩ := m2.sl
   obtain ⟨_, _, rfl⟩ := m3.sl
   obtain ⟨_, _, rfl⟩ := m4.sl
   simp only [List.cons_append, List.nil_append, List.cons.injEq, and_true] at e1 e1'
   obtain ⟨rfl, rfl, rfl, rfl, rfl, rfl, rfl, rfl⟩ := e1
   obtain ⟨rfl, rfl, rfl, rfl, rfl, rfl, rfl, rfl⟩ := e1'
   have hm : x1 ∈ cs := List.mem_of_getElem? hx1
   unfold eqCp
   refine Qjq rfl (fun w' hb => equal_s (e3.later Qbf hb) (e3'.later Qbf hb)) (fun w' hb => ?_)
   exact Qdn x1.2.2.1 y1.2.2.1 S w' _ _ _ _ _ _ _ _ _ _ (Qbe.same _ _ _ _ _ e4 hb.size (fun b _ hl => hb.block b hl)) (Qbe.same _ _ _ _ _ e4' hb.size (fun b _ hl => hb.block b hl))
  · exact eqf_i Qby pin_one eqIn (h3.later Qby hb) (g3.later Qby hb) (fun j x1 y1 _ _ w1 _ _ _ _ _ _ _ a1 a2 => Qqo a1 a2)
  · exact eqf_q Qbg pcl_one eqCl (h4.later Qbg hb) (g4.later Qbg hb) (fun j x1 y1 _ _ w1 _ _ _ _ _ _ _ _ _ _ _ a1 a2 => Qqq a1 a2)
termination_by SizeOf.sizeOf p
decreasing_by
 have h1 := List.sizeOf_lt_of_mem hm
 have h2 : SizeOf.sizeOf x1.2.2.1 < SizeOf.sizeOf x1 := by
  obtain ⟨a, b, c, d⟩ := x1
  simp only [Prod.mk.sizeOf_spec]
  omega
 simp only [Pg.mk.sizeOf_spec]
 omega
end
end Go.Proofs.YtjebglmpopijhaaGreatDoor
