/- syn: sameLits, as a chain. syn: sameCtors, as a chain. syn: sameTypes, as a chain. syn: sameDecls, as a chain. syn: sameInits, as a chain. syn: sameComps, as a chain. syn: sameClauses, as a chain. syn: Same, as a chain. -/
import Derived.Test.YtdjehbdpcdikkaaGreatDoorMt25
namespace Go.Proofs.YtdjehbdpcdikkaaGreatDoor
open Go.RowKit Go.Maps

set_option maxRecDepth 100000 in
set_option maxHeartbeats 8000000 in
theorem sameLits_ch {w : World} {xk xat xk1 xm1 xat1 xk2 xm2 xat2 xat3 : Int} {xt xo xt1 xt2 : Txt} {xa x1a x2a : Option Addr} {xn xc x1n x1c x2n x2c : Nat} {yk yat yk1 ym1 yat1 yk2 ym2 yat2 yat3 : Int} {yt yo yt1 yt2 : Txt} {ya y1a y2a : Option Addr} {yn yc y1n y1c y2n y2c : Nat} {s0 s1 s2 s3 s4 : Bool} (h0 : s0 = decide (xk = yk)) (h1 : ∀ w', Below w.heap.size w w' → Calls Tryz.prog 65 #[.agg #[str xt, .slice xa xn xc, .int .i64 xat], .agg #[str yt, .slice ya yn yc, .int .i64 yat]] w' fun en w2 => en = .returned (.bool s1) ∧ Below w'.heap.size w' w2) (h2 : s2 = decide (xo = yo)) (h3 : ∀ w', Below w.heap.size w w' → Calls Tryz.prog 95 #[.agg #[.int .i64 xk1, .int .i64 xm1, str xt1, .slice x1a x1n x1c, .int .i64 xat1], .agg #[.int .i64 yk1, .int .i64 ym1, str yt1, .slice y1a y1n y1c, .int .i64 yat1]] w' fun en w2 => en = .returned (.bool s3) ∧ Below w'.heap.size w' w2) (h4 : ∀ w', Below w.heap.size w w' → Calls Tryz.prog 95 #[.agg #[.int .i64 xk2, .int .i64 xm2, str xt2, .slice x2a x2n x2c, .int .i64 xat2], .agg #[.int .i64 yk2, .int .i64 ym2, str yt2, .slice y2a y2n y2c, .int .i64 yat2]] w' fun en w2 => en = .returned (.bool s4) ∧ Below w'.heap.size w' w2) :
  Calls Tryz.prog 67 #[.agg #[.int .i64 xk, str xt, .slice xa xn xc, .int .i64 xat, str xo, .int .i64 xk1, .int .i64 xm1, str xt1, .slice x1a x1n x1c, .int .i64 xat1, .int .i64 xk2, .int .i64 xm2, str xt2, .slice x2a x2n x2c, .int .i64 xat2, .int .i64 xat3], .agg #[.int .i64 yk, str yt, .slice ya yn yc, .int .i64 yat, str yo, .int .i64 yk1, .int .i64 ym1, str yt1, .slice y1a y1n y1c, .int .i64 yat1, .int .i64 yk2, .int .i64 ym2, str yt2, .slice y2a y2n y2c, .int .i64 yat2, .int .i64 yat3]] w fun en w' => en = .returned (.bool (s0 && s1 && s2 && s3 && s4)) ∧ Below w.heap.size w w' := by
 have B0 : Hid (Below w.heap.size w ((w.alloc (.cells #[.int .i64 xk, str xt, .slice xa xn xc, .int .i64 xat, str xo, .int .i64 xk1, .int .i64 xm1, str xt1, .slice x1a x1n x1c, .int .i64 xat1, .int .i64 xk2, .int .i64 xm2, str xt2, .slice x2a x2n x2c, .int .i64 xat2, .int .i64 xat3] 92)).alloc (.cells #[.int .i64 yk, str yt, .slice ya yn yc, .int .i64 yat, str yo, .int .i64 yk1, .int .i64 ym1, str yt1, .slice y1a y1n y1c, .int .i64 yat1, .int .i64 yk2, .int .i64 ym2, str yt2, .slice y2a y2n y2c, .int .i64 yat2, .int .i64 yat3] 92)) ∧ ((w.alloc (.cells #[.int .i64 xk, str xt, .slice xa xn xc, .int .i64 xat, str xo, .int .i64 xk1, .int .i64 xm1, str xt1, .slice x1a x1n x1c, .int .i64 xat1, .int .i64 xk2, .int .i64 xm2, str xt2, .slice x2a x2n x2c, .int .i64 xat2, .int .i64 xat3] 92)).alloc (.cells #[.int .i64 yk, str yt, .slice ya yn yc, .int .i64 yat, str yo, .int .i64 yk1, .int .i64 ym1, str yt1, .slice y1a y1n y1c, .int .i64 yat1, .int .i64 yk2, .int .i64 ym2, str yt2, .slice y2a y2n y2c, .int .i64 yat2, .int .i64 yat3] 92)).heap[w.heap.size]? = some (.cells #[.int .i64 xk, str xt, .slice xa xn xc, .int .i64 xat, str xo, .int .i64 xk1, .int .i64 xm1, str xt1, .slice x1a x1n x1c, .int .i64 xat1, .int .i64 xk2, .int .i64 xm2, str xt2, .slice x2a x2n x2c, .int .i64 xat2, .int .i64 xat3] 92 (0, 0)) ∧ ((w.alloc (.cells #[.int .i64 xk, str xt, .slice xa xn xc, .int .i64 xat, str xo, .int .i64 xk1, .int .i64 xm1, str xt1, .slice x1a x1n x1c, .int .i64 xat1, .int .i64 xk2, .int .i64 xm2, str xt2, .slice x2a x2n x2c, .int .i64 xat2, .int .i64 xat3] 92)).alloc (.cells #[.int .i64 yk, str yt, .slice ya yn yc, .int .i64 yat, str yo, .int .i64 yk1, .int .i64 ym1, str yt1, .slice y1a y1n y1c, .int .i64 yat1, .int .i64 yk2, .int .i64 ym2, str yt2, .slice y2a y2n y2c, .int .i64 yat2, .int .i64 yat3] 92)).heap[w.heap.size + 1]? = some (.cells #[.int .i64 yk, str yt, .slice ya yn yc, .int .i64 yat, str yo, .int .i64 yk1, .int .i64 ym1, str yt1, .slice y1a y1n y1c, .int .i64 yat1, .int .i64 yk2, .int .i64 ym2, str yt2, .slice y2a y2n y2c, .int .i64 yat2, .int .i64 yat3] 92 (0, 0))) := by
  refine ⟨((Below.refl _ w).alloc (Nat.le_refl _) _).alloc (by simp) _, ?_, ?_⟩
  · rw [Below.heap_alloc _ _ _ (by simp)]; exact heap_alloc_new w _
  ·
   have := heap_alloc_new (w.alloc (.cells #[.int .i64 xk, str xt, .slice xa xn xc, .int .i64 xat, str xo, .int .i64 xk1, .int .i64 xm1, str xt1, .slice x1a x1n x1c, .int .i64 xat1, .int .i64 xk2, .int .i64 xm2, str xt2, .slice x2a x2n x2c, .int .i64 xat2, .int .i64 xat3] 92)) (.cells #[.int .i64 yk, str yt, .slice ya yn yc, .int .i64 yat, str yo, .int .i64 yk1, .int .i64 ym1, str yt1, .slice y1a y1n y1c, .int .i64 yat1, .int .i64 yk2, .int .i64 ym2, str yt2, .slice y2a y2n y2c, .int .i64 yat2, .int .i64 yat3] 92)
   rw [show (w.alloc (.cells #[.int .i64 xk, str xt, .slice xa xn xc, .int .i64 xat, str xo, .int .i64 xk1, .int .i64 xm1, str xt1, .slice x1a x1n x1c, .int .i64 xat1, .int .i64 xk2, .int .i64 xm2, str xt2, .slice x2a x2n x2c, .int .i64 xat2, .int .i64 xat3] 92)).heap.size = w.heap.size + 1 by simp] at this
   exact this
 have H0 := hide h0
 have H1 := hide h1
 have H2 := hide h2
 have H3 := hide h3
 have H4 := hide h4
 clear h0 h1 h2 h3 h4
 cases s0 with
 | false =>
  have g0 : (xk == yk) = false := by simpa using unhide H0
  go_enter Tryz.func67, Tryz.ntmps67
  go_wp2_with fail
  go_ret
  exact ⟨rfl, (unhide B0).1⟩
 | true =>
  have g0 : (xk == yk) = true := by simpa using unhide H0
  go_enter Tryz.func67, Tryz.ntmps67
  have hcl := unhide H1 _ (unhide B0).1
  go_wp2_with fail
  refine hcl.mono ?_
  clear hcl
  rintro en w1 ⟨rfl, b1⟩
  obtain ⟨bb, na, nb⟩ := unhide B0
  have na1 := (b1.block _ (lt_hp na)).trans na
  have nb1 := (b1.block _ (lt_hp nb)).trans nb
  have BB1 := hide (And.intro (bb.trans (b1.mono bb.size)) (And.intro na1 nb1))
  obtain ⟨x_0, x_1, x_2, x_3, x_4, x_5, x_6, x_7, x_8, x_9, x_10, x_11, x_12, x_13, x_14, x_15, xf⟩ := cl16 na1
  obtain ⟨y_0, y_1, y_2, y_3, y_4, y_5, y_6, y_7, y_8, y_9, y_10, y_11, y_12, y_13, y_14, y_15, yf⟩ := cl16 nb1
  clear bb na nb b1 na1 nb1
  cases s1 with
  | false =>
   go_wp2_with fail
   go_ret
   exact ⟨rfl, (unhide BB1).1⟩
  | true =>
   cases s2 with
   | false =>
    have g2 : (xo == yo) = false := by simpa using unhide H2
    go_wp2_with fail
    go_ret
    exact ⟨rfl, (unhide BB1).1⟩
   | true =>
    have g2 : (xo == yo) = true := by simpa using unhide H2
    have hcl := unhide H3 _ (unhide BB1).1
    go_wp2_with fail
    refine hcl.mono ?_
    clear hcl
    rintro en w3 ⟨rfl, b3⟩
    obtain ⟨bb, na, nb⟩ := unhide BB1
    have na3 := (b3.block _ (lt_hp na)).trans na
    have nb3 := (b3.block _ (lt_hp nb)).trans nb
    have BB3 := hide (And.intro (bb.trans (b3.mono bb.size)) (And.intro na3 nb3))
    obtain ⟨x_0, x_1, x_2, x_3, x_4, x_5, x_6, x_7, x_8, x_9, x_10, x_11, x_12, x_13, x_14, x_15, xf⟩ := cl16 na3
    obtain ⟨y_0, y_1, y_2, y_3, y_4, y_5, y_6, y_7, y_8, y_9, y_10, y_11, y_12, y_13, y_14, y_15, yf⟩ := cl16 nb3
    clear bb na nb b3 na3 nb3
    cases s3 with
    | false =>
     go_wp2_with fail
     go_ret
     exact ⟨rfl, (unhide BB3).1⟩
    | true =>
     have hcl := unhide H4 _ (unhide BB3).1
     go_wp2_with fail
     refine hcl.mono ?_
     clear hcl
     rintro en w4 ⟨rfl, b4⟩
     obtain ⟨bb, na, nb⟩ := unhide BB3
     have na4 := (b4.block _ (lt_hp na)).trans na
     have nb4 := (b4.block _ (lt_hp nb)).trans nb
     have BB4 := hide (And.intro (bb.trans (b4.mono bb.size)) (And.intro na4 nb4))
     obtain ⟨x_0, x_1, x_2, x_3, x_4, x_5, x_6, x_7, x_8, x_9, x_10, x_11, x_12, x_13, x_14, x_15, xf⟩ := cl16 na4
     obtain ⟨y_0, y_1, y_2, y_3, y_4, y_5, y_6, y_7, y_8, y_9, y_10, y_11, y_12, y_13, y_14, y_15, yf⟩ := cl16 nb4
     clear bb na nb b4 na4 nb4
     cases s4 with
     | false =>
      go_wp2_with fail
      go_ret
      exact ⟨rfl, (unhide BB4).1⟩
     | true =>
      go_wp2_with fail
      go_ret
      exact ⟨rfl, (unhide BB4).1⟩
end Go.Proofs.YtdjehbdpcdikkaaGreatDoor

namespace Go.Proofs.YtdjehbdpcdikkaaGreatDoor
open Go.RowKit Go.Maps

set_option maxRecDepth 100000 in
set_option maxHeartbeats 8000000 in
theorem sameCtors_ch {w : World} {xt : Txt} {xa : Option Addr} {xn xc : Nat} {yt : Txt} {ya : Option Addr} {yn yc : Nat} {s0 s1 : Bool} (h0 : s0 = decide (xt = yt)) (h1 : ∀ w', Below w.heap.size w w' → Calls Tryz.prog 63 #[.slice xa xn xc, .slice ya yn yc] w' fun en w2 => en = .returned (.bool s1) ∧ Below w'.heap.size w' w2) :
  Calls Tryz.prog 62 #[.agg #[str xt, .slice xa xn xc], .agg #[str yt, .slice ya yn yc]] w fun en w' => en = .returned (.bool (s0 && s1)) ∧ Below w.heap.size w w' := by
 have B0 : Hid (Below w.heap.size w ((w.alloc (.cells #[str xt, .slice xa xn xc] 120)).alloc (.cells #[str yt, .slice ya yn yc] 120)) ∧ ((w.alloc (.cells #[str xt, .slice xa xn xc] 120)).alloc (.cells #[str yt, .slice ya yn yc] 120)).heap[w.heap.size]? = some (.cells #[str xt, .slice xa xn xc] 120 (0, 0)) ∧ ((w.alloc (.cells #[str xt, .slice xa xn xc] 120)).alloc (.cells #[str yt, .slice ya yn yc] 120)).heap[w.heap.size + 1]? = some (.cells #[str yt, .slice ya yn yc] 120 (0, 0))) := by
  refine ⟨((Below.refl _ w).alloc (Nat.le_refl _) _).alloc (by simp) _, ?_, ?_⟩
  · rw [Below.heap_alloc _ _ _ (by simp)]; exact heap_alloc_new w _
  ·
   have := heap_alloc_new (w.alloc (.cells #[str xt, .slice xa xn xc] 120)) (.cells #[str yt, .slice ya yn yc] 120)
   rw [show (w.alloc (.cells #[str xt, .slice xa xn xc] 120)).heap.size = w.heap.size + 1 by simp] at this
   exact this
 have H0 := hide h0
 have H1 := hide h1
 clear h0 h1
 cases s0 with
 | false =>
  have g0 : (xt == yt) = false := by simpa using unhide H0
  go_enter Tryz.func62, Tryz.ntmps62
  go_wp2_with fail
  go_ret
  exact ⟨rfl, (unhide B0).1⟩
 | true =>
  have g0 : (xt == yt) = true := by simpa using unhide H0
  go_enter Tryz.func62, Tryz.ntmps62
  have hcl := unhide H1 _ (unhide B0).1
  go_wp2_with fail
  refine hcl.mono ?_
  clear hcl
  rintro en w1 ⟨rfl, b1⟩
  obtain ⟨bb, na, nb⟩ := unhide B0
  have na1 := (b1.block _ (lt_hp na)).trans na
  have nb1 := (b1.block _ (lt_hp nb)).trans nb
  have BB1 := hide (And.intro (bb.trans (b1.mono bb.size)) (And.intro na1 nb1))
  obtain ⟨x_0, x_1, xf⟩ := cl2 na1
  obtain ⟨y_0, y_1, yf⟩ := cl2 nb1
  clear bb na nb b1 na1 nb1
  cases s1 with
  | false =>
   go_wp2_with fail
   go_ret
   exact ⟨rfl, (unhide BB1).1⟩
  | true =>
   go_wp2_with fail
   go_ret
   exact ⟨rfl, (unhide BB1).1⟩
end Go.Proofs.YtdjehbdpcdikkaaGreatDoor

namespace Go.Proofs.YtdjehbdpcdikkaaGreatDoor
open Go.RowKit Go.Maps

set_option maxRecDepth 100000 in
set_option maxHeartbeats 8000000 in
theorem sameTypes_ch {w : World} {xat : Int} {xt xu : Txt} {xa : Option Addr} {xn xc : Nat} {yat : Int} {yt yu : Txt} {ya : Option Addr} {yn yc : Nat} {s0 s1 s2 : Bool} (h0 : s0 = decide (xt = yt)) (h1 : s1 = decide (xu = yu)) (h2 : ∀ w', Below w.heap.size w w' → Calls Tryz.prog 61 #[.slice xa xn xc, .slice ya yn yc, .func (.func 62) #[] #[]] w' fun en w2 => en = .returned (.bool s2) ∧ Below w'.heap.size w' w2) :
  Calls Tryz.prog 24 #[.agg #[str xt, str xu, .slice xa xn xc, .int .i64 xat], .agg #[str yt, str yu, .slice ya yn yc, .int .i64 yat]] w fun en w' => en = .returned (.bool (s0 && s1 && s2)) ∧ Below w.heap.size w w' := by
 have B0 : Hid (Below w.heap.size w ((w.alloc (.cells #[str xt, str xu, .slice xa xn xc, .int .i64 xat] 61)).alloc (.cells #[str yt, str yu, .slice ya yn yc, .int .i64 yat] 61)) ∧ ((w.alloc (.cells #[str xt, str xu, .slice xa xn xc, .int .i64 xat] 61)).alloc (.cells #[str yt, str yu, .slice ya yn yc, .int .i64 yat] 61)).heap[w.heap.size]? = some (.cells #[str xt, str xu, .slice xa xn xc, .int .i64 xat] 61 (0, 0)) ∧ ((w.alloc (.cells #[str xt, str xu, .slice xa xn xc, .int .i64 xat] 61)).alloc (.cells #[str yt, str yu, .slice ya yn yc, .int .i64 yat] 61)).heap[w.heap.size + 1]? = some (.cells #[str yt, str yu, .slice ya yn yc, .int .i64 yat] 61 (0, 0))) := by
  refine ⟨((Below.refl _ w).alloc (Nat.le_refl _) _).alloc (by simp) _, ?_, ?_⟩
  · rw [Below.heap_alloc _ _ _ (by simp)]; exact heap_alloc_new w _
  ·
   have := heap_alloc_new (w.alloc (.cells #[str xt, str xu, .slice xa xn xc, .int .i64 xat] 61)) (.cells #[str yt, str yu, .slice ya yn yc, .int .i64 yat] 61)
   rw [show (w.alloc (.cells #[str xt, str xu, .slice xa xn xc, .int .i64 xat] 61)).heap.size = w.heap.size + 1 by simp] at this
   exact this
 have H0 := hide h0
 have H1 := hide h1
 have H2 := hide h2
 clear h0 h1 h2
 cases s0 with
 | false =>
  have g0 : (xt == yt) = false := by simpa using unhide H0
  go_enter Tryz.func24, Tryz.ntmps24
  go_wp2_with fail
  go_ret
  exact ⟨rfl, (unhide B0).1⟩
 | true =>
  have g0 : (xt == yt) = true := by simpa using unhide H0
  cases s1 with
  | false =>
   have g1 : (xu == yu) = false := by simpa using unhide H1
   go_enter Tryz.func24, Tryz.ntmps24
   go_wp2_with fail
   go_ret
   exact ⟨rfl, (unhide B0).1⟩
  | true =>
   have g1 : (xu == yu) = true := by simpa using unhide H1
   go_enter Tryz.func24, Tryz.ntmps24
   have hcl := unhide H2 _ (unhide B0).1
   go_wp2_with fail
   refine hcl.mono ?_
   clear hcl
   rintro en w2 ⟨rfl, b2⟩
   obtain ⟨bb, na, nb⟩ := unhide B0
   have na2 := (b2.block _ (lt_hp na)).trans na
   have nb2 := (b2.block _ (lt_hp nb)).trans nb
   have BB2 := hide (And.intro (bb.trans (b2.mono bb.size)) (And.intro na2 nb2))
   obtain ⟨x_0, x_1, x_2, x_3, xf⟩ := cl4 na2
   obtain ⟨y_0, y_1, y_2, y_3, yf⟩ := cl4 nb2
   clear bb na nb b2 na2 nb2
   cases s2 with
   | false =>
    go_wp2_with fail
    go_ret
    exact ⟨rfl, (unhide BB2).1⟩
   | true =>
    go_wp2_with fail
    go_ret
    exact ⟨rfl, (unhide BB2).1⟩
end Go.Proofs.YtdjehbdpcdikkaaGreatDoor

namespace Go.Proofs.YtdjehbdpcdikkaaGreatDoor
open Go.RowKit Go.Maps

set_option maxRecDepth 100000 in
set_option maxHeartbeats 8000000 in
theorem sameDecls_ch {w : World} {xat : Int} {xt : Txt} {xi xo : Bool} {xa : Option Addr} {xn xc : Nat} {yat : Int} {yt : Txt} {yi yo : Bool} {ya : Option Addr} {yn yc : Nat} {s0 s1 s2 s3 : Bool} (h0 : s0 = decide (xt = yt)) (h1 : ∀ w', Below w.heap.size w w' → Calls Tryz.prog 63 #[.slice xa xn xc, .slice ya yn yc] w' fun en w2 => en = .returned (.bool s1) ∧ Below w'.heap.size w' w2) (h2 : s2 = decide (xi = yi)) (h3 : s3 = decide (xo = yo)) :
  Calls Tryz.prog 26 #[.agg #[str xt, .slice xa xn xc, .bool xi, .bool xo, .int .i64 xat], .agg #[str yt, .slice ya yn yc, .bool yi, .bool yo, .int .i64 yat]] w fun en w' => en = .returned (.bool (s0 && s1 && s2 && s3)) ∧ Below w.heap.size w w' := by
 have B0 : Hid (Below w.heap.size w ((w.alloc (.cells #[str xt, .slice xa xn xc, .bool xi, .bool xo, .int .i64 xat] 66)).alloc (.cells #[str yt, .slice ya yn yc, .bool yi, .bool yo, .int .i64 yat] 66)) ∧ ((w.alloc (.cells #[str xt, .slice xa xn xc, .bool xi, .bool xo, .int .i64 xat] 66)).alloc (.cells #[str yt, .slice ya yn yc, .bool yi, .bool yo, .int .i64 yat] 66)).heap[w.heap.size]? = some (.cells #[str xt, .slice xa xn xc, .bool xi, .bool xo, .int .i64 xat] 66 (0, 0)) ∧ ((w.alloc (.cells #[str xt, .slice xa xn xc, .bool xi, .bool xo, .int .i64 xat] 66)).alloc (.cells #[str yt, .slice ya yn yc, .bool yi, .bool yo, .int .i64 yat] 66)).heap[w.heap.size + 1]? = some (.cells #[str yt, .slice ya yn yc, .bool yi, .bool yo, .int .i64 yat] 66 (0, 0))) := by
  refine ⟨((Below.refl _ w).alloc (Nat.le_refl _) _).alloc (by simp) _, ?_, ?_⟩
  · rw [Below.heap_alloc _ _ _ (by simp)]; exact heap_alloc_new w _
  ·
   have := heap_alloc_new (w.alloc (.cells #[str xt, .slice xa xn xc, .bool xi, .bool xo, .int .i64 xat] 66)) (.cells #[str yt, .slice ya yn yc, .bool yi, .bool yo, .int .i64 yat] 66)
   rw [show (w.alloc (.cells #[str xt, .slice xa xn xc, .bool xi, .bool xo, .int .i64 xat] 66)).heap.size = w.heap.size + 1 by simp] at this
   exact this
 have H0 := hide h0
 have H1 := hide h1
 have H2 := hide h2
 have H3 := hide h3
 clear h0 h1 h2 h3
 cases s0 with
 | false =>
  have g0 : (xt == yt) = false := by simpa using unhide H0
  go_enter Tryz.func26, Tryz.ntmps26
  go_wp2_with fail
  go_ret
  exact ⟨rfl, (unhide B0).1⟩
 | true =>
  have g0 : (xt == yt) = true := by simpa using unhide H0
  go_enter Tryz.func26, Tryz.ntmps26
  have hcl := unhide H1 _ (unhide B0).1
  go_wp2_with fail
  refine hcl.mono ?_
  clear hcl
  rintro en w1 ⟨rfl, b1⟩
  obtain ⟨bb, na, nb⟩ := unhide B0
  have na1 := (b1.block _ (lt_hp na)).trans na
  have nb1 := (b1.block _ (lt_hp nb)).trans nb
  have BB1 := hide (And.intro (bb.trans (b1.mono bb.size)) (And.intro na1 nb1))
  obtain ⟨x_0, x_1, x_2, x_3, x_4, xf⟩ := cl5 na1
  obtain ⟨y_0, y_1, y_2, y_3, y_4, yf⟩ := cl5 nb1
  clear bb na nb b1 na1 nb1
  cases s1 with
  | false =>
   go_wp2_with fail
   go_ret
   exact ⟨rfl, (unhide BB1).1⟩
  | true =>
   cases s2 with
   | false =>
    have g2 : (xi == yi) = false := by simpa using unhide H2
    go_wp2_with fail
    go_ret
    exact ⟨rfl, (unhide BB1).1⟩
   | true =>
    have g2 : (xi == yi) = true := by simpa using unhide H2
    cases s3 with
    | false =>
     have g3 : (xo == yo) = false := by simpa using unhide H3
     go_wp2_with fail
     go_ret
     exact ⟨rfl, (unhide BB1).1⟩
    | true =>
     have g3 : (xo == yo) = true := by simpa using unhide H3
     go_wp2_with fail
     go_ret
     exact ⟨rfl, (unhide BB1).1⟩
end Go.Proofs.YtdjehbdpcdikkaaGreatDoor

namespace Go.Proofs.YtdjehbdpcdikkaaGreatDoor
open Go.RowKit Go.Maps

set_option maxRecDepth 100000 in
set_option maxHeartbeats 8000000 in
theorem sameInits_ch {w : World} {xat : Int} {xt xu : Txt} {yat : Int} {yt yu : Txt} {s0 s1 : Bool} (h0 : s0 = decide (xt = yt)) (h1 : s1 = decide (xu = yu)) :
  Calls Tryz.prog 30 #[.agg #[str xt, str xu, .int .i64 xat], .agg #[str yt, str yu, .int .i64 yat]] w fun en w' => en = .returned (.bool (s0 && s1)) ∧ Below w.heap.size w w' := by
 have B0 : Hid (Below w.heap.size w ((w.alloc (.cells #[str xt, str xu, .int .i64 xat] 74)).alloc (.cells #[str yt, str yu, .int .i64 yat] 74)) ∧ ((w.alloc (.cells #[str xt, str xu, .int .i64 xat] 74)).alloc (.cells #[str yt, str yu, .int .i64 yat] 74)).heap[w.heap.size]? = some (.cells #[str xt, str xu, .int .i64 xat] 74 (0, 0)) ∧ ((w.alloc (.cells #[str xt, str xu, .int .i64 xat] 74)).alloc (.cells #[str yt, str yu, .int .i64 yat] 74)).heap[w.heap.size + 1]? = some (.cells #[str yt, str yu, .int .i64 yat] 74 (0, 0))) := by
  refine ⟨((Below.refl _ w).alloc (Nat.le_refl _) _).alloc (by simp) _, ?_, ?_⟩
  · rw [Below.heap_alloc _ _ _ (by simp)]; exact heap_alloc_new w _
  ·
   have := heap_alloc_new (w.alloc (.cells #[str xt, str xu, .int .i64 xat] 74)) (.cells #[str yt, str yu, .int .i64 yat] 74)
   rw [show (w.alloc (.cells #[str xt, str xu, .int .i64 xat] 74)).heap.size = w.heap.size + 1 by simp] at this
   exact this
 have H0 := hide h0
 have H1 := hide h1
 clear h0 h1
 cases s0 with
 | false =>
  have g0 : (xt == yt) = false := by simpa using unhide H0
  go_enter Tryz.func30, Tryz.ntmps30
  go_wp2_with fail
  go_ret
  exact ⟨rfl, (unhide B0).1⟩
 | true =>
  have g0 : (xt == yt) = true := by simpa using unhide H0
  cases s1 with
  | false =>
   have g1 : (xu == yu) = false := by simpa using unhide H1
   go_enter Tryz.func30, Tryz.ntmps30
   go_wp2_with fail
   go_ret
   exact ⟨rfl, (unhide B0).1⟩
  | true =>
   have g1 : (xu == yu) = true := by simpa using unhide H1
   go_enter Tryz.func30, Tryz.ntmps30
   go_wp2_with fail
   go_ret
   exact ⟨rfl, (unhide B0).1⟩
end Go.Proofs.YtdjehbdpcdikkaaGreatDoor

namespace Go.Proofs.YtdjehbdpcdikkaaGreatDoor
open Go.RowKit Go.Maps

set_option maxRecDepth 100000 in
set_option maxHeartbeats 8000000 in
theorem sameComps_ch {w : World} {xat : Int} {xt : Txt} {xa : Option Addr} {xn xc : Nat} {x0a : Option Addr} {x0n x0c : Nat} {x1a : Option Addr} {x1n x1c : Nat} {x2a : Option Addr} {x2n x2c : Nat} {x3a : Option Addr} {x3n x3c : Nat} {x4a : Option Addr} {x4n x4c : Nat} {yat : Int} {yt : Txt} {ya : Option Addr} {yn yc : Nat} {y0a : Option Addr} {y0n y0c : Nat} {y1a : Option Addr} {y1n y1c : Nat} {y2a : Option Addr} {y2n y2c : Nat} {y3a : Option Addr} {y3n y3c : Nat} {y4a : Option Addr} {y4n y4c : Nat} {s0 s1 s2 : Bool} (h0 : s0 = decide (xt = yt)) (h1 : ∀ w', Below w.heap.size w w' → Calls Tryz.prog 64 #[.slice xa xn xc, .slice ya yn yc] w' fun en w2 => en = .returned (.bool s1) ∧ Below w'.heap.size w' w2) (h2 : ∀ w', Below w.heap.size w w' → Calls Tryz.prog 9 #[.agg #[.slice x0a x0n x0c, .slice x1a x1n x1c, .slice x2a x2n x2c, .slice x3a x3n x3c, .slice x4a x4n x4c], .agg #[.slice y0a y0n y0c, .slice y1a y1n y1c, .slice y2a y2n y2c, .slice y3a y3n y3c, .slice y4a y4n y4c]] w' fun en w2 => en = .returned (.bool s2) ∧ Below w'.heap.size w' w2) :
  Calls Tryz.prog 28 #[.agg #[str xt, .slice xa xn xc, .slice x0a x0n x0c, .slice x1a x1n x1c, .slice x2a x2n x2c, .slice x3a x3n x3c, .slice x4a x4n x4c, .int .i64 xat], .agg #[str yt, .slice ya yn yc, .slice y0a y0n y0c, .slice y1a y1n y1c, .slice y2a y2n y2c, .slice y3a y3n y3c, .slice y4a y4n y4c, .int .i64 yat]] w fun en w' => en = .returned (.bool (s0 && s1 && s2)) ∧ Below w.heap.size w w' := by
 have B0 : Hid (Below w.heap.size w ((w.alloc (.cells #[str xt, .slice xa xn xc, .slice x0a x0n x0c, .slice x1a x1n x1c, .slice x2a x2n x2c, .slice x3a x3n x3c, .slice x4a x4n x4c, .int .i64 xat] 70)).alloc (.cells #[str yt, .slice ya yn yc, .slice y0a y0n y0c, .slice y1a y1n y1c, .slice y2a y2n y2c, .slice y3a y3n y3c, .slice y4a y4n y4c, .int .i64 yat] 70)) ∧ ((w.alloc (.cells #[str xt, .slice xa xn xc, .slice x0a x0n x0c, .slice x1a x1n x1c, .slice x2a x2n x2c, .slice x3a x3n x3c, .slice x4a x4n x4c, .int .i64 xat] 70)).alloc (.cells #[str yt, .slice ya yn yc, .slice y0a y0n y0c, .slice y1a y1n y1c, .slice y2a y2n y2c, .slice y3a y3n y3c, .slice y4a y4n y4c, .int .i64 yat] 70)).heap[w.heap.size]? = some (.cells #[str xt, .slice xa xn xc, .slice x0a x0n x0c, .slice x1a x1n x1c, .slice x2a x2n x2c, .slice x3a x3n x3c, .slice x4a x4n x4c, .int .i64 xat] 70 (0, 0)) ∧ ((w.alloc (.cells #[str xt, .slice xa xn xc, .slice x0a x0n x0c, .slice x1a x1n x1c, .slice x2a x2n x2c, .slice x3a x3n x3c, .slice x4a x4n x4c, .int .i64 xat] 70)).alloc (.cells #[str yt, .slice ya yn yc, .slice y0a y0n y0c, .slice y1a y1n y1c, .slice y2a y2n y2c, .slice y3a y3n y3c, .slice y4a y4n y4c, .int .i64 yat] 70)).heap[w.heap.size + 1]? = some (.cells #[str yt, .slice ya yn yc, .slice y0a y0n y0c, .slice y1a y1n y1c, .slice y2a y2n y2c, .slice y3a y3n y3c, .slice y4a y4n y4c, .int .i64 yat] 70 (0, 0))) := by
  refine ⟨((Below.refl _ w).alloc (Nat.le_refl _) _).alloc (by simp) _, ?_, ?_⟩
  · rw [Below.heap_alloc _ _ _ (by simp)]; exact heap_alloc_new w _
  ·
   have := heap_alloc_new (w.alloc (.cells #[str xt, .slice xa xn xc, .slice x0a x0n x0c, .slice x1a x1n x1c, .slice x2a x2n x2c, .slice x3a x3n x3c, .slice x4a x4n x4c, .int .i64 xat] 70)) (.cells #[str yt, .slice ya yn yc, .slice y0a y0n y0c, .slice y1a y1n y1c, .slice y2a y2n y2c, .slice y3a y3n y3c, .slice y4a y4n y4c, .int .i64 yat] 70)
   rw [show (w.alloc (.cells #[str xt, .slice xa xn xc, .slice x0a x0n x0c, .slice x1a x1n x1c, .slice x2a x2n x2c, .slice x3a x3n x3c, .slice x4a x4n x4c, .int .i64 xat] 70)).heap.size = w.heap.size + 1 by simp] at this
   exact this
 have H0 := hide h0
 have H1 := hide h1
 have H2 := hide h2
 clear h0 h1 h2
 cases s0 with
 | false =>
  have g0 : (xt == yt) = false := by simpa using unhide H0
  go_enter Tryz.func28, Tryz.ntmps28
  go_wp2_with fail
  go_ret
  exact ⟨rfl, (unhide B0).1⟩
 | true =>
  have g0 : (xt == yt) = true := by simpa using unhide H0
  go_enter Tryz.func28, Tryz.ntmps28
  have hcl := unhide H1 _ (unhide B0).1
  go_wp2_with fail
  refine hcl.mono ?_
  clear hcl
  rintro en w1 ⟨rfl, b1⟩
  obtain ⟨bb, na, nb⟩ := unhide B0
  have na1 := (b1.block _ (lt_hp na)).trans na
  have nb1 := (b1.block _ (lt_hp nb)).trans nb
  have BB1 := hide (And.intro (bb.trans (b1.mono bb.size)) (And.intro na1 nb1))
  obtain ⟨x_0, x_1, x_2, x_3, x_4, x_5, x_6, x_7, xf⟩ := cl8 na1
  obtain ⟨y_0, y_1, y_2, y_3, y_4, y_5, y_6, y_7, yf⟩ := cl8 nb1
  clear bb na nb b1 na1 nb1
  cases s1 with
  | false =>
   go_wp2_with fail
   go_ret
   exact ⟨rfl, (unhide BB1).1⟩
  | true =>
   have hcl := unhide H2 _ (unhide BB1).1
   go_wp2_with fail
   refine hcl.mono ?_
   clear hcl
   rintro en w2 ⟨rfl, b2⟩
   obtain ⟨bb, na, nb⟩ := unhide BB1
   have na2 := (b2.block _ (lt_hp na)).trans na
   have nb2 := (b2.block _ (lt_hp nb)).trans nb
   have BB2 := hide (And.intro (bb.trans (b2.mono bb.size)) (And.intro na2 nb2))
   obtain ⟨x_0, x_1, x_2, x_3, x_4, x_5, x_6, x_7, xf⟩ := cl8 na2
   obtain ⟨y_0, y_1, y_2, y_3, y_4, y_5, y_6, y_7, yf⟩ := cl8 nb2
   clear bb na nb b2 na2 nb2
   cases s2 with
   | false =>
    go_wp2_with fail
    go_ret
    exact ⟨rfl, (unhide BB2).1⟩
   | true =>
    go_wp2_with fail
    go_ret
    exact ⟨rfl, (unhide BB2).1⟩
end Go.Proofs.YtdjehbdpcdikkaaGreatDoor

namespace Go.Proofs.YtdjehbdpcdikkaaGreatDoor
open Go.RowKit Go.Maps

set_option maxRecDepth 100000 in
set_option maxHeartbeats 8000000 in
theorem sameClauses_ch {w : World} {xat xat1 : Int} {xt : Txt} {xa x1a : Option Addr} {xn xc x1n x1c : Nat} {yat yat1 : Int} {yt : Txt} {ya y1a : Option Addr} {yn yc y1n y1c : Nat} {s0 s1 : Bool} (h0 : ∀ w', Below w.heap.size w w' → Calls Tryz.prog 65 #[.agg #[str xt, .slice xa xn xc, .int .i64 xat], .agg #[str yt, .slice ya yn yc, .int .i64 yat]] w' fun en w2 => en = .returned (.bool s0) ∧ Below w'.heap.size w' w2) (h1 : ∀ w', Below w.heap.size w w' → Calls Tryz.prog 66 #[.slice x1a x1n x1c, .slice y1a y1n y1c, .func (.func 67) #[] #[]] w' fun en w2 => en = .returned (.bool s1) ∧ Below w'.heap.size w' w2) :
  Calls Tryz.prog 32 #[.agg #[str xt, .slice xa xn xc, .int .i64 xat, .slice x1a x1n x1c, .int .i64 xat1], .agg #[str yt, .slice ya yn yc, .int .i64 yat, .slice y1a y1n y1c, .int .i64 yat1]] w fun en w' => en = .returned (.bool (s0 && s1)) ∧ Below w.heap.size w w' := by
 have B0 : Hid (Below w.heap.size w ((w.alloc (.cells #[str xt, .slice xa xn xc, .int .i64 xat, .slice x1a x1n x1c, .int .i64 xat1] 82)).alloc (.cells #[str yt, .slice ya yn yc, .int .i64 yat, .slice y1a y1n y1c, .int .i64 yat1] 82)) ∧ ((w.alloc (.cells #[str xt, .slice xa xn xc, .int .i64 xat, .slice x1a x1n x1c, .int .i64 xat1] 82)).alloc (.cells #[str yt, .slice ya yn yc, .int .i64 yat, .slice y1a y1n y1c, .int .i64 yat1] 82)).heap[w.heap.size]? = some (.cells #[str xt, .slice xa xn xc, .int .i64 xat, .slice x1a x1n x1c, .int .i64 xat1] 82 (0, 0)) ∧ ((w.alloc (.cells #[str xt, .slice xa xn xc, .int .i64 xat, .slice x1a x1n x1c, .int .i64 xat1] 82)).alloc (.cells #[str yt, .slice ya yn yc, .int .i64 yat, .slice y1a y1n y1c, .int .i64 yat1] 82)).heap[w.heap.size + 1]? = some (.cells #[str yt, .slice ya yn yc, .int .i64 yat, .slice y1a y1n y1c, .int .i64 yat1] 82 (0, 0))) := by
  refine ⟨((Below.refl _ w).alloc (Nat.le_refl _) _).alloc (by simp) _, ?_, ?_⟩
  · rw [Below.heap_alloc _ _ _ (by simp)]; exact heap_alloc_new w _
  ·
   have := heap_alloc_new (w.alloc (.cells #[str xt, .slice xa xn xc, .int .i64 xat, .slice x1a x1n x1c, .int .i64 xat1] 82)) (.cells #[str yt, .slice ya yn yc, .int .i64 yat, .slice y1a y1n y1c, .int .i64 yat1] 82)
   rw [show (w.alloc (.cells #[str xt, .slice xa xn xc, .int .i64 xat, .slice x1a x1n x1c, .int .i64 xat1] 82)).heap.size = w.heap.size + 1 by simp] at this
   exact this
 have H0 := hide h0
 have H1 := hide h1
 clear h0 h1
 go_enter Tryz.func32, Tryz.ntmps32
 have hcl := unhide H0 _ (unhide B0).1
 go_wp2_with fail
 refine hcl.mono ?_
 clear hcl
 rintro en w0 ⟨rfl, b0⟩
 obtain ⟨bb, na, nb⟩ := unhide B0
 have na0 := (b0.block _ (lt_hp na)).trans na
 have nb0 := (b0.block _ (lt_hp nb)).trans nb
 have BB0 := hide (And.intro (bb.trans (b0.mono bb.size)) (And.intro na0 nb0))
 obtain ⟨x_0, x_1, x_2, x_3, x_4, xf⟩ := cl5 na0
 obtain ⟨y_0, y_1, y_2, y_3, y_4, yf⟩ := cl5 nb0
 clear bb na nb b0 na0 nb0
 cases s0 with
 | false =>
  go_wp2_with fail
  go_ret
  exact ⟨rfl, (unhide BB0).1⟩
 | true =>
  have hcl := unhide H1 _ (unhide BB0).1
  go_wp2_with fail
  refine hcl.mono ?_
  clear hcl
  rintro en w1 ⟨rfl, b1⟩
  obtain ⟨bb, na, nb⟩ := unhide BB0
  have na1 := (b1.block _ (lt_hp na)).trans na
  have nb1 := (b1.block _ (lt_hp nb)).trans nb
  have BB1 := hide (And.intro (bb.trans (b1.mono bb.size)) (And.intro na1 nb1))
  obtain ⟨x_0, x_1, x_2, x_3, x_4, xf⟩ := cl5 na1
  obtain ⟨y_0, y_1, y_2, y_3, y_4, yf⟩ := cl5 nb1
  clear bb na nb b1 na1 nb1
  cases s1 with
  | false =>
   go_wp2_with fail
   go_ret
   exact ⟨rfl, (unhide BB1).1⟩
  | true =>
   go_wp2_with fail
   go_ret
   exact ⟨rfl, (unhide BB1).1⟩
end Go.Proofs.YtdjehbdpcdikkaaGreatDoor

namespace Go.Proofs.YtdjehbdpcdikkaaGreatDoor
open Go.RowKit Go.Maps

set_option maxRecDepth 100000 in
set_option maxHeartbeats 8000000 in
theorem Same_ch {w : World}  {x0a : Option Addr} {x0n x0c : Nat} {x1a : Option Addr} {x1n x1c : Nat} {x2a : Option Addr} {x2n x2c : Nat} {x3a : Option Addr} {x3n x3c : Nat} {x4a : Option Addr} {x4n x4c : Nat}  {y0a : Option Addr} {y0n y0c : Nat} {y1a : Option Addr} {y1n y1c : Nat} {y2a : Option Addr} {y2n y2c : Nat} {y3a : Option Addr} {y3n y3c : Nat} {y4a : Option Addr} {y4n y4c : Nat} {s0 s1 s2 s3 s4 : Bool} (h0 : ∀ w', Below w.heap.size w w' → Calls Tryz.prog 23 #[.slice x0a x0n x0c, .slice y0a y0n y0c, .func (.func 24) #[] #[]] w' fun en w2 => en = .returned (.bool s0) ∧ Below w'.heap.size w' w2) (h1 : ∀ w', Below w.heap.size w w' → Calls Tryz.prog 25 #[.slice x1a x1n x1c, .slice y1a y1n y1c, .func (.func 26) #[] #[]] w' fun en w2 => en = .returned (.bool s1) ∧ Below w'.heap.size w' w2) (h2 : ∀ w', Below w.heap.size w w' → Calls Tryz.prog 27 #[.slice x2a x2n x2c, .slice y2a y2n y2c, .func (.func 28) #[] #[]] w' fun en w2 => en = .returned (.bool s2) ∧ Below w'.heap.size w' w2) (h3 : ∀ w', Below w.heap.size w w' → Calls Tryz.prog 29 #[.slice x3a x3n x3c, .slice y3a y3n y3c, .func (.func 30) #[] #[]] w' fun en w2 => en = .returned (.bool s3) ∧ Below w'.heap.size w' w2) (h4 : ∀ w', Below w.heap.size w w' → Calls Tryz.prog 31 #[.slice x4a x4n x4c, .slice y4a y4n y4c, .func (.func 32) #[] #[]] w' fun en w2 => en = .returned (.bool s4) ∧ Below w'.heap.size w' w2) :
  Calls Tryz.prog 9 #[.agg #[.slice x0a x0n x0c, .slice x1a x1n x1c, .slice x2a x2n x2c, .slice x3a x3n x3c, .slice x4a x4n x4c], .agg #[.slice y0a y0n y0c, .slice y1a y1n y1c, .slice y2a y2n y2c, .slice y3a y3n y3c, .slice y4a y4n y4c]] w fun en w' => en = .returned (.bool (s0 && s1 && s2 && s3 && s4)) ∧ Below w.heap.size w w' := by
 have B0 : Hid (Below w.heap.size w ((w.alloc (.cells #[.slice x0a x0n x0c, .slice x1a x1n x1c, .slice x2a x2n x2c, .slice x3a x3n x3c, .slice x4a x4n x4c] 28)).alloc (.cells #[.slice y0a y0n y0c, .slice y1a y1n y1c, .slice y2a y2n y2c, .slice y3a y3n y3c, .slice y4a y4n y4c] 28)) ∧ ((w.alloc (.cells #[.slice x0a x0n x0c, .slice x1a x1n x1c, .slice x2a x2n x2c, .slice x3a x3n x3c, .slice x4a x4n x4c] 28)).alloc (.cells #[.slice y0a y0n y0c, .slice y1a y1n y1c, .slice y2a y2n y2c, .slice y3a y3n y3c, .slice y4a y4n y4c] 28)).heap[w.heap.size]? = some (.cells #[.slice x0a x0n x0c, .slice x1a x1n x1c, .slice x2a x2n x2c, .slice x3a x3n x3c, .slice x4a x4n x4c] 28 (0, 0)) ∧ ((w.alloc (.cells #[.slice x0a x0n x0c, .slice x1a x1n x1c, .slice x2a x2n x2c, .slice x3a x3n x3c, .slice x4a x4n x4c] 28)).alloc (.cells #[.slice y0a y0n y0c, .slice y1a y1n y1c, .slice y2a y2n y2c, .slice y3a y3n y3c, .slice y4a y4n y4c] 28)).heap[w.heap.size + 1]? = some (.cells #[.slice y0a y0n y0c, .slice y1a y1n y1c, .slice y2a y2n y2c, .slice y3a y3n y3c, .slice y4a y4n y4c] 28 (0, 0))) := by
  refine ⟨((Below.refl _ w).alloc (Nat.le_refl _) _).alloc (by simp) _, ?_, ?_⟩
  · rw [Below.heap_alloc _ _ _ (by simp)]; exact heap_alloc_new w _
  ·
   have := heap_alloc_new (w.alloc (.cells #[.slice x0a x0n x0c, .slice x1a x1n x1c, .slice x2a x2n x2c, .slice x3a x3n x3c, .slice x4a x4n x4c] 28)) (.cells #[.slice y0a y0n y0c, .slice y1a y1n y1c, .slice y2a y2n y2c, .slice y3a y3n y3c, .slice y4a y4n y4c] 28)
   rw [show (w.alloc (.cells #[.slice x0a x0n x0c, .slice x1a x1n x1c, .slice x2a x2n x2c, .slice x3a x3n x3c, .slice x4a x4n x4c] 28)).heap.size = w.heap.size + 1 by simp] at this
   exact this
 have H0 := hide h0
 have H1 := hide h1
 have H2 := hide h2
 have H3 := hide h3
 have H4 := hide h4
 clear h0 h1 h2 h3 h4
 go_enter Tryz.func9, Tryz.ntmps9
 have hcl := unhide H0 _ (unhide B0).1
 go_wp2_with fail
 refine hcl.mono ?_
 clear hcl
 rintro en w0 ⟨rfl, b0⟩
 obtain ⟨bb, na, nb⟩ := unhide B0
 have na0 := (b0.block _ (lt_hp na)).trans na
 have nb0 := (b0.block _ (lt_hp nb)).trans nb
 have BB0 := hide (And.intro (bb.trans (b0.mono bb.size)) (And.intro na0 nb0))
 obtain ⟨x_0, x_1, x_2, x_3, x_4, xf⟩ := cl5 na0
 obtain ⟨y_0, y_1, y_2, y_3, y_4, yf⟩ := cl5 nb0
 clear bb na nb b0 na0 nb0
 cases s0 with
 | false =>
  go_wp2_with fail
  go_ret
  exact ⟨rfl, (unhide BB0).1⟩
 | true =>
  have hcl := unhide H1 _ (unhide BB0).1
  go_wp2_with fail
  refine hcl.mono ?_
  clear hcl
  rintro en w1 ⟨rfl, b1⟩
  obtain ⟨bb, na, nb⟩ := unhide BB0
  have na1 := (b1.block _ (lt_hp na)).trans na
  have nb1 := (b1.block _ (lt_hp nb)).trans nb
  have BB1 := hide (And.intro (bb.trans (b1.mono bb.size)) (And.intro na1 nb1))
  obtain ⟨x_0, x_1, x_2, x_3, x_4, xf⟩ := cl5 na1
  obtain ⟨y_0, y_1, y_2, y_3, y_4, yf⟩ := cl5 nb1
  clear bb na nb b1 na1 nb1
  cases s1 with
  | false =>
   go_wp2_with fail
   go_ret
   exact ⟨rfl, (unhide BB1).1⟩
  | true =>
   have hcl := unhide H2 _ (unhide BB1).1
   go_wp2_with fail
   refine hcl.mono ?_
   clear hcl
   rintro en w2 ⟨rfl, b2⟩
   obtain ⟨bb, na, nb⟩ := unhide BB1
   have na2 := (b2.block _ (lt_hp na)).trans na
   have nb2 := (b2.block _ (lt_hp nb)).trans nb
   have BB2 := hide (And.intro (bb.trans (b2.mono bb.size)) (And.intro na2 nb2))
   obtain ⟨x_0, x_1, x_2, x_3, x_4, xf⟩ := cl5 na2
   obtain ⟨y_0, y_1, y_2, y_3, y_4, yf⟩ := cl5 nb2
   clear bb na nb b2 na2 nb2
   cases s2 with
   | false =>
    go_wp2_with fail
    go_ret
    exact ⟨rfl, (unhide BB2).1⟩
   | true =>
    have hcl := unhide H3 _ (unhide BB2).1
    go_wp2_with fail
    refine hcl.mono ?_
    clear hcl
    rintro en w3 ⟨rfl, b3⟩
    obtain ⟨bb, na, nb⟩ := unhide BB2
    have na3 := (b3.block _ (lt_hp na)).trans na
    have nb3 := (b3.block _ (lt_hp nb)).trans nb
    have BB3 := hide (And.intro (bb.trans (b3.mono bb.size)) (And.intro na3 nb3))
    obtain ⟨x_0, x_1, x_2, x_3, x_4, xf⟩ := cl5 na3
    obtain ⟨y_0, y_1, y_2, y_3, y_4, yf⟩ := cl5 nb3
    clear bb na nb b3 na3 nb3
    cases s3 with
    | false =>
     go_wp2_with fail
     go_ret
     exact ⟨rfl, (unhide BB3).1⟩
    | true =>
     have hcl := unhide H4 _ (unhide BB3).1
     go_wp2_with fail
     refine hcl.mono ?_
     clear hcl
     rintro en w4 ⟨rfl, b4⟩
     obtain ⟨bb, na, nb⟩ := unhide BB3
     have na4 := (b4.block _ (lt_hp na)).trans na
     have nb4 := (b4.block _ (lt_hp nb)).trans nb
     have BB4 := hide (And.intro (bb.trans (b4.mono bb.size)) (And.intro na4 nb4))
     obtain ⟨x_0, x_1, x_2, x_3, x_4, xf⟩ := cl5 na4
     obtain ⟨y_0, y_1, y_2, y_3, y_4, yf⟩ := cl5 nb4
     clear bb na nb b4 na4 nb4
     cases s4 with
     | false =>
      go_wp2_with fail
      go_ret
      exact ⟨rfl, (unhide BB4).1⟩
     | true =>
      go_wp2_with fail
      go_ret
      exact ⟨rfl, (unhide BB4).1⟩
end Go.Proofs.YtdjehbdpcdikkaaGreatDoor
