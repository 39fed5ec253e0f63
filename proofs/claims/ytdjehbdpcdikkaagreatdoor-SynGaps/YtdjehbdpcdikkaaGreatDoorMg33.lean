/- syn: sameInits, as a chain. syn: sameComps, as a chain. syn: sameClauses, as a chain. syn: Same, as a chain. syn: Same, of any two programs. -/
import Derived.Test.YtdjehbdpcdikkaaGreatDoorMg29
import Derived.Test.YtdjehbdpcdikkaaGreatDoorMg30
import Derived.Test.YtdjehbdpcdikkaaGreatDoorMg31
import Derived.Test.YtdjehbdpcdikkaaGreatDoorMg32
namespace Go.Proofs.YtdjehbdpcdikkaaGreatDoor
open Go.RowKit Go.Maps

set_option maxRecDepth 100000 in
set_option maxHeartbeats 8000000 in
theorem sameInits_ch {w : World} {xat : Int} {xt xu : Txt} {yat : Int} {yt yu : Txt} {s0 s1 : Bool} (h0 : s0 = decide (xt = yt)) (h1 : s1 = decide (xu = yu)) :
    Calls Tryz.prog 30 #[.agg #[str xt, str xu, .int .i64 xat], .agg #[str yt, str yu, .int .i64 yat]] w fun en w' => en = .returned (.bool (s0 && s1)) ∧ Below w.heap.size w w' := by
  have B0 : Hid (Below w.heap.size w ((w.alloc (.cells #[str xt, str xu, .int .i64 xat] 74)).alloc (.cells #[str yt, str yu, .int .i64 yat] 74)) ∧ ((w.alloc (.cells #[str xt, str xu, .int .i64 xat] 74)).alloc (.cells #[str yt, str yu, .int .i64 yat] 74)).heap[w.heap.size]? = some (.cells #[str xt, str xu, .int .i64 xat] 74 (0, 0)) ∧ ((w.alloc (.cells #[str xt, str xu, .int .i64 xat] 74)).alloc (.cells #[str yt, str yu, .int .i64 yat] 74)).heap[w.heap.size + 1]? = some (.cells #[str yt, str yu, .int .i64 yat] 74 (0, 0))) := by
    refine ⟨((Below.refl _ w).alloc (Nat.le_refl _) _).alloc (by simp) _, ?_, ?_⟩
    · rw [Below.heap_alloc _ _ _ (by simp)]; exact heap_alloc_new w _
    · have := heap_alloc_new (w.alloc (.cells #[str xt, str xu, .int .i64 xat] 74)) (.cells #[str yt, str yu, .int .i64 yat] 74)
      rw [show (w.alloc (.cells #[str xt, str xu, .int .i64 xat] 74)).heap.size = w.heap.size + 1 by simp] at this
      exact this
  have H0 := hide h0
  have H1 := hide h1
  clear h0 h1
  cases s0 with
  | false =>
    have g0 : (xt == yt) = false := by simpa using unhide H0
    go_enter Tryz.func30, Tryz.ntmps30
    go_wp2_with fail
    go_ret
    exact ⟨rfl, (unhide B0).1⟩
  | true =>
    have g0 : (xt == yt) = true := by simpa using unhide H0
    cases s1 with
    | false =>
      have g1 : (xu == yu) = false := by simpa using unhide H1
      go_enter Tryz.func30, Tryz.ntmps30
      go_wp2_with fail
      go_ret
      exact ⟨rfl, (unhide B0).1⟩
    | true =>
      have g1 : (xu == yu) = true := by simpa using unhide H1
      go_enter Tryz.func30, Tryz.ntmps30
      go_wp2_with fail
      go_ret
      exact ⟨rfl, (unhide B0).1⟩
end Go.Proofs.YtdjehbdpcdikkaaGreatDoor

namespace Go.Proofs.YtdjehbdpcdikkaaGreatDoor
open Go.RowKit Go.Maps

set_option maxRecDepth 100000 in
set_option maxHeartbeats 8000000 in
theorem sameComps_ch {w : World} {xat : Int} {xt : Txt} {xa : Option Addr} {xn xc : Nat} {x0a : Option Addr} {x0n x0c : Nat} {x1a : Option Addr} {x1n x1c : Nat} {x2a : Option Addr} {x2n x2c : Nat} {x3a : Option Addr} {x3n x3c : Nat} {x4a : Option Addr} {x4n x4c : Nat} {yat : Int} {yt : Txt} {ya : Option Addr} {yn yc : Nat} {y0a : Option Addr} {y0n y0c : Nat} {y1a : Option Addr} {y1n y1c : Nat} {y2a : Option Addr} {y2n y2c : Nat} {y3a : Option Addr} {y3n y3c : Nat} {y4a : Option Addr} {y4n y4c : Nat} {s0 s1 s2 : Bool} (h0 : s0 = decide (xt = yt)) (h1 : ∀ w', Below w.heap.size w w' → Calls Tryz.prog 64 #[.slice xa xn xc, .slice ya yn yc] w' fun en w2 => en = .returned (.bool s1) ∧ Below w'.heap.size w' w2) (h2 : ∀ w', Below w.heap.size w w' → Calls Tryz.prog 9 #[.agg #[.slice x0a x0n x0c, .slice x1a x1n x1c, .slice x2a x2n x2c, .slice x3a x3n x3c, .slice x4a x4n x4c], .agg #[.slice y0a y0n y0c, .slice y1a y1n y1c, .slice y2a y2n y2c, .slice y3a y3n y3c, .slice y4a y4n y4c]] w' fun en w2 => en = .returned (.bool s2) ∧ Below w'.heap.size w' w2) :
    Calls Tryz.prog 28 #[.agg #[str xt, .slice xa xn xc, .slice x0a x0n x0c, .slice x1a x1n x1c, .slice x2a x2n x2c, .slice x3a x3n x3c, .slice x4a x4n x4c, .int .i64 xat], .agg #[str yt, .slice ya yn yc, .slice y0a y0n y0c, .slice y1a y1n y1c, .slice y2a y2n y2c, .slice y3a y3n y3c, .slice y4a y4n y4c, .int .i64 yat]] w fun en w' => en = .returned (.bool (s0 && s1 && s2)) ∧ Below w.heap.size w w' := by
  have B0 : Hid (Below w.heap.size w ((w.alloc (.cells #[str xt, .slice xa xn xc, .slice x0a x0n x0c, .slice x1a x1n x1c, .slice x2a x2n x2c, .slice x3a x3n x3c, .slice x4a x4n x4c, .int .i64 xat] 70)).alloc (.cells #[str yt, .slice ya yn yc, .slice y0a y0n y0c, .slice y1a y1n y1c, .slice y2a y2n y2c, .slice y3a y3n y3c, .slice y4a y4n y4c, .int .i64 yat] 70)) ∧ ((w.alloc (.cells #[str xt, .slice xa xn xc, .slice x0a x0n x0c, .slice x1a x1n x1c, .slice x2a x2n x2c, .slice x3a x3n x3c, .slice x4a x4n x4c, .int .i64 xat] 70)).alloc (.cells #[str yt, .slice ya yn yc, .slice y0a y0n y0c, .slice y1a y1n y1c, .slice y2a y2n y2c, .slice y3a y3n y3c, .slice y4a y4n y4c, .int .i64 yat] 70)).heap[w.heap.size]? = some (.cells #[str xt, .slice xa xn xc, .slice x0a x0n x0c, .slice x1a x1n x1c, .slice x2a x2n x2c, .slice x3a x3n x3c, .slice x4a x4n x4c, .int .i64 xat] 70 (0, 0)) ∧ ((w.alloc (.cells #[str xt, .slice xa xn xc, .slice x0a x0n x0c, .slice x1a x1n x1c, .slice x2a x2n x2c, .slice x3a x3n x3c, .slice x4a x4n x4c, .int .i64 xat] 70)).alloc (.cells #[str yt, .slice ya yn yc, .slice y0a y0n y0c, .slice y1a y1n y1c, .slice y2a y2n y2c, .slice y3a y3n y3c, .slice y4a y4n y4c, .int .i64 yat] 70)).heap[w.heap.size + 1]? = some (.cells #[str yt, .slice ya yn yc, .slice y0a y0n y0c, .slice y1a y1n y1c, .slice y2a y2n y2c, .slice y3a y3n y3c, .slice y4a y4n y4c, .int .i64 yat] 70 (0, 0))) := by
    refine ⟨((Below.refl _ w).alloc (Nat.le_refl _) _).alloc (by simp) _, ?_, ?_⟩
    · rw [Below.heap_alloc _ _ _ (by simp)]; exact heap_alloc_new w _
    · have := heap_alloc_new (w.alloc (.cells #[str xt, .slice xa xn xc, .slice x0a x0n x0c, .slice x1a x1n x1c, .slice x2a x2n x2c, .slice x3a x3n x3c, .slice x4a x4n x4c, .int .i64 xat] 70)) (.cells #[str yt, .slice ya yn yc, .slice y0a y0n y0c, .slice y1a y1n y1c, .slice y2a y2n y2c, .slice y3a y3n y3c, .slice y4a y4n y4c, .int .i64 yat] 70)
      rw [show (w.alloc (.cells #[str xt, .slice xa xn xc, .slice x0a x0n x0c, .slice x1a x1n x1c, .slice x2a x2n x2c, .slice x3a x3n x3c, .slice x4a x4n x4c, .int .i64 xat] 70)).heap.size = w.heap.size + 1 by simp] at this
      exact this
  have H0 := hide h0
  have H1 := hide h1
  have H2 := hide h2
  clear h0 h1 h2
  cases s0 with
  | false =>
    have g0 : (xt == yt) = false := by simpa using unhide H0
    go_enter Tryz.func28, Tryz.ntmps28
    go_wp2_with fail
    go_ret
    exact ⟨rfl, (unhide B0).1⟩
  | true =>
    have g0 : (xt == yt) = true := by simpa using unhide H0
    go_enter Tryz.func28, Tryz.ntmps28
    have hcl := unhide H1 _ (unhide B0).1
    go_wp2_with fail
    refine hcl.mono ?_
    clear hcl
    rintro en w1 ⟨rfl, b1⟩
    obtain ⟨bb, na, nb⟩ := unhide B0
    have na1 := (b1.block _ (lt_hp na)).trans na
    have nb1 := (b1.block _ (lt_hp nb)).trans nb
    have BB1 := hide (And.intro (bb.trans (b1.mono bb.size)) (And.intro na1 nb1))
    obtain ⟨x_0, x_1, x_2, x_3, x_4, x_5, x_6, x_7, xf⟩ := cl8 na1
    obtain ⟨y_0, y_1, y_2, y_3, y_4, y_5, y_6, y_7, yf⟩ := cl8 nb1
    clear bb na nb b1 na1 nb1
    cases s1 with
    | false =>
      go_wp2_with fail
      go_ret
      exact ⟨rfl, (unhide BB1).1⟩
    | true =>
      have hcl := unhide H2 _ (unhide BB1).1
      go_wp2_with fail
      refine hcl.mono ?_
      clear hcl
      rintro en w2 ⟨rfl, b2⟩
      obtain ⟨bb, na, nb⟩ := unhide BB1
      have na2 := (b2.block _ (lt_hp na)).trans na
      have nb2 := (b2.block _ (lt_hp nb)).trans nb
      have BB2 := hide (And.intro (bb.trans (b2.mono bb.size)) (And.intro na2 nb2))
      obtain ⟨x_0, x_1, x_2, x_3, x_4, x_5, x_6, x_7, xf⟩ := cl8 na2
      obtain ⟨y_0, y_1, y_2, y_3, y_4, y_5, y_6, y_7, yf⟩ := cl8 nb2
      clear bb na nb b2 na2 nb2
      cases s2 with
      | false =>
        go_wp2_with fail
        go_ret
        exact ⟨rfl, (unhide BB2).1⟩
      | true =>
        go_wp2_with fail
        go_ret
        exact ⟨rfl, (unhide BB2).1⟩
end Go.Proofs.YtdjehbdpcdikkaaGreatDoor

namespace Go.Proofs.YtdjehbdpcdikkaaGreatDoor
open Go.RowKit Go.Maps

set_option maxRecDepth 100000 in
set_option maxHeartbeats 8000000 in
theorem sameClauses_ch {w : World} {xat xat1 : Int} {xt : Txt} {xa x1a : Option Addr} {xn xc x1n x1c : Nat} {yat yat1 : Int} {yt : Txt} {ya y1a : Option Addr} {yn yc y1n y1c : Nat} {s0 s1 : Bool} (h0 : ∀ w', Below w.heap.size w w' → Calls Tryz.prog 65 #[.agg #[str xt, .slice xa xn xc, .int .i64 xat], .agg #[str yt, .slice ya yn yc, .int .i64 yat]] w' fun en w2 => en = .returned (.bool s0) ∧ Below w'.heap.size w' w2) (h1 : ∀ w', Below w.heap.size w w' → Calls Tryz.prog 66 #[.slice x1a x1n x1c, .slice y1a y1n y1c, .func (.func 67) #[] #[]] w' fun en w2 => en = .returned (.bool s1) ∧ Below w'.heap.size w' w2) :
    Calls Tryz.prog 32 #[.agg #[str xt, .slice xa xn xc, .int .i64 xat, .slice x1a x1n x1c, .int .i64 xat1], .agg #[str yt, .slice ya yn yc, .int .i64 yat, .slice y1a y1n y1c, .int .i64 yat1]] w fun en w' => en = .returned (.bool (s0 && s1)) ∧ Below w.heap.size w w' := by
  have B0 : Hid (Below w.heap.size w ((w.alloc (.cells #[str xt, .slice xa xn xc, .int .i64 xat, .slice x1a x1n x1c, .int .i64 xat1] 82)).alloc (.cells #[str yt, .slice ya yn yc, .int .i64 yat, .slice y1a y1n y1c, .int .i64 yat1] 82)) ∧ ((w.alloc (.cells #[str xt, .slice xa xn xc, .int .i64 xat, .slice x1a x1n x1c, .int .i64 xat1] 82)).alloc (.cells #[str yt, .slice ya yn yc, .int .i64 yat, .slice y1a y1n y1c, .int .i64 yat1] 82)).heap[w.heap.size]? = some (.cells #[str xt, .slice xa xn xc, .int .i64 xat, .slice x1a x1n x1c, .int .i64 xat1] 82 (0, 0)) ∧ ((w.alloc (.cells #[str xt, .slice xa xn xc, .int .i64 xat, .slice x1a x1n x1c, .int .i64 xat1] 82)).alloc (.cells #[str yt, .slice ya yn yc, .int .i64 yat, .slice y1a y1n y1c, .int .i64 yat1] 82)).heap[w.heap.size + 1]? = some (.cells #[str yt, .slice ya yn yc, .int .i64 yat, .slice y1a y1n y1c, .int .i64 yat1] 82 (0, 0))) := by
    refine ⟨((Below.refl _ w).alloc (Nat.le_refl _) _).alloc (by simp) _, ?_, ?_⟩
    · rw [Below.heap_alloc _ _ _ (by simp)]; exact heap_alloc_new w _
    · have := heap_alloc_new (w.alloc (.cells #[str xt, .slice xa xn xc, .int .i64 xat, .slice x1a x1n x1c, .int .i64 xat1] 82)) (.cells #[str yt, .slice ya yn yc, .int .i64 yat, .slice y1a y1n y1c, .int .i64 yat1] 82)
      rw [show (w.alloc (.cells #[str xt, .slice xa xn xc, .int .i64 xat, .slice x1a x1n x1c, .int .i64 xat1] 82)).heap.size = w.heap.size + 1 by simp] at this
      exact this
  have H0 := hide h0
  have H1 := hide h1
  clear h0 h1
  go_enter Tryz.func32, Tryz.ntmps32
  have hcl := unhide H0 _ (unhide B0).1
  go_wp2_with fail
  refine hcl.mono ?_
  clear hcl
  rintro en w0 ⟨rfl, b0⟩
  obtain ⟨bb, na, nb⟩ := unhide B0
  have na0 := (b0.block _ (lt_hp na)).trans na
  have nb0 := (b0.block _ (lt_hp nb)).trans nb
  have BB0 := hide (And.intro (bb.trans (b0.mono bb.size)) (And.intro na0 nb0))
  obtain ⟨x_0, x_1, x_2, x_3, x_4, xf⟩ := cl5 na0
  obtain ⟨y_0, y_1, y_2, y_3, y_4, yf⟩ := cl5 nb0
  clear bb na nb b0 na0 nb0
  cases s0 with
  | false =>
    go_wp2_with fail
    go_ret
    exact ⟨rfl, (unhide BB0).1⟩
  | true =>
    have hcl := unhide H1 _ (unhide BB0).1
    go_wp2_with fail
    refine hcl.mono ?_
    clear hcl
    rintro en w1 ⟨rfl, b1⟩
    obtain ⟨bb, na, nb⟩ := unhide BB0
    have na1 := (b1.block _ (lt_hp na)).trans na
    have nb1 := (b1.block _ (lt_hp nb)).trans nb
    have BB1 := hide (And.intro (bb.trans (b1.mono bb.size)) (And.intro na1 nb1))
    obtain ⟨x_0, x_1, x_2, x_3, x_4, xf⟩ := cl5 na1
    obtain ⟨y_0, y_1, y_2, y_3, y_4, yf⟩ := cl5 nb1
    clear bb na nb b1 na1 nb1
    cases s1 with
    | false =>
      go_wp2_with fail
      go_ret
      exact ⟨rfl, (unhide BB1).1⟩
    | true =>
      go_wp2_with fail
      go_ret
      exact ⟨rfl, (unhide BB1).1⟩
end Go.Proofs.YtdjehbdpcdikkaaGreatDoor

namespace Go.Proofs.YtdjehbdpcdikkaaGreatDoor
open Go.RowKit Go.Maps

set_option maxRecDepth 100000 in
set_option maxHeartbeats 8000000 in
theorem Same_ch {w : World}  {x0a : Option Addr} {x0n x0c : Nat} {x1a : Option Addr} {x1n x1c : Nat} {x2a : Option Addr} {x2n x2c : Nat} {x3a : Option Addr} {x3n x3c : Nat} {x4a : Option Addr} {x4n x4c : Nat}  {y0a : Option Addr} {y0n y0c : Nat} {y1a : Option Addr} {y1n y1c : Nat} {y2a : Option Addr} {y2n y2c : Nat} {y3a : Option Addr} {y3n y3c : Nat} {y4a : Option Addr} {y4n y4c : Nat} {s0 s1 s2 s3 s4 : Bool} (h0 : ∀ w', Below w.heap.size w w' → Calls Tryz.prog 23 #[.slice x0a x0n x0c, .slice y0a y0n y0c, .func (.func 24) #[] #[]] w' fun en w2 => en = .returned (.bool s0) ∧ Below w'.heap.size w' w2) (h1 : ∀ w', Below w.heap.size w w' → Calls Tryz.prog 25 #[.slice x1a x1n x1c, .slice y1a y1n y1c, .func (.func 26) #[] #[]] w' fun en w2 => en = .returned (.bool s1) ∧ Below w'.heap.size w' w2) (h2 : ∀ w', Below w.heap.size w w' → Calls Tryz.prog 27 #[.slice x2a x2n x2c, .slice y2a y2n y2c, .func (.func 28) #[] #[]] w' fun en w2 => en = .returned (.bool s2) ∧ Below w'.heap.size w' w2) (h3 : ∀ w', Below w.heap.size w w' → Calls Tryz.prog 29 #[.slice x3a x3n x3c, .slice y3a y3n y3c, .func (.func 30) #[] #[]] w' fun en w2 => en = .returned (.bool s3) ∧ Below w'.heap.size w' w2) (h4 : ∀ w', Below w.heap.size w w' → Calls Tryz.prog 31 #[.slice x4a x4n x4c, .slice y4a y4n y4c, .func (.func 32) #[] #[]] w' fun en w2 => en = .returned (.bool s4) ∧ Below w'.heap.size w' w2) :
    Calls Tryz.prog 9 #[.agg #[.slice x0a x0n x0c, .slice x1a x1n x1c, .slice x2a x2n x2c, .slice x3a x3n x3c, .slice x4a x4n x4c], .agg #[.slice y0a y0n y0c, .slice y1a y1n y1c, .slice y2a y2n y2c, .slice y3a y3n y3c, .slice y4a y4n y4c]] w fun en w' => en = .returned (.bool (s0 && s1 && s2 && s3 && s4)) ∧ Below w.heap.size w w' := by
  have B0 : Hid (Below w.heap.size w ((w.alloc (.cells #[.slice x0a x0n x0c, .slice x1a x1n x1c, .slice x2a x2n x2c, .slice x3a x3n x3c, .slice x4a x4n x4c] 28)).alloc (.cells #[.slice y0a y0n y0c, .slice y1a y1n y1c, .slice y2a y2n y2c, .slice y3a y3n y3c, .slice y4a y4n y4c] 28)) ∧ ((w.alloc (.cells #[.slice x0a x0n x0c, .slice x1a x1n x1c, .slice x2a x2n x2c, .slice x3a x3n x3c, .slice x4a x4n x4c] 28)).alloc (.cells #[.slice y0a y0n y0c, .slice y1a y1n y1c, .slice y2a y2n y2c, .slice y3a y3n y3c, .slice y4a y4n y4c] 28)).heap[w.heap.size]? = some (.cells #[.slice x0a x0n x0c, .slice x1a x1n x1c, .slice x2a x2n x2c, .slice x3a x3n x3c, .slice x4a x4n x4c] 28 (0, 0)) ∧ ((w.alloc (.cells #[.slice x0a x0n x0c, .slice x1a x1n x1c, .slice x2a x2n x2c, .slice x3a x3n x3c, .slice x4a x4n x4c] 28)).alloc (.cells #[.slice y0a y0n y0c, .slice y1a y1n y1c, .slice y2a y2n y2c, .slice y3a y3n y3c, .slice y4a y4n y4c] 28)).heap[w.heap.size + 1]? = some (.cells #[.slice y0a y0n y0c, .slice y1a y1n y1c, .slice y2a y2n y2c, .slice y3a y3n y3c, .slice y4a y4n y4c] 28 (0, 0))) := by
    refine ⟨((Below.refl _ w).alloc (Nat.le_refl _) _).alloc (by simp) _, ?_, ?_⟩
    · rw [Below.heap_alloc _ _ _ (by simp)]; exact heap_alloc_new w _
    · have := heap_alloc_new (w.alloc (.cells #[.slice x0a x0n x0c, .slice x1a x1n x1c, .slice x2a x2n x2c, .slice x3a x3n x3c, .slice x4a x4n x4c] 28)) (.cells #[.slice y0a y0n y0c, .slice y1a y1n y1c, .slice y2a y2n y2c, .slice y3a y3n y3c, .slice y4a y4n y4c] 28)
      rw [show (w.alloc (.cells #[.slice x0a x0n x0c, .slice x1a x1n x1c, .slice x2a x2n x2c, .slice x3a x3n x3c, .slice x4a x4n x4c] 28)).heap.size = w.heap.size + 1 by simp] at this
      exact this
  have H0 := hide h0
  have H1 := hide h1
  have H2 := hide h2
  have H3 := hide h3
  have H4 := hide h4
  clear h0 h1 h2 h3 h4
  go_enter Tryz.func9, Tryz.ntmps9
  have hcl := unhide H0 _ (unhide B0).1
  go_wp2_with fail
  refine hcl.mono ?_
  clear hcl
  rintro en w0 ⟨rfl, b0⟩
  obtain ⟨bb, na, nb⟩ := unhide B0
  have na0 := (b0.block _ (lt_hp na)).trans na
  have nb0 := (b0.block _ (lt_hp nb)).trans nb
  have BB0 := hide (And.intro (bb.trans (b0.mono bb.size)) (And.intro na0 nb0))
  obtain ⟨x_0, x_1, x_2, x_3, x_4, xf⟩ := cl5 na0
  obtain ⟨y_0, y_1, y_2, y_3, y_4, yf⟩ := cl5 nb0
  clear bb na nb b0 na0 nb0
  cases s0 with
  | false =>
    go_wp2_with fail
    go_ret
    exact ⟨rfl, (unhide BB0).1⟩
  | true =>
    have hcl := unhide H1 _ (unhide BB0).1
    go_wp2_with fail
    refine hcl.mono ?_
    clear hcl
    rintro en w1 ⟨rfl, b1⟩
    obtain ⟨bb, na, nb⟩ := unhide BB0
    have na1 := (b1.block _ (lt_hp na)).trans na
    have nb1 := (b1.block _ (lt_hp nb)).trans nb
    have BB1 := hide (And.intro (bb.trans (b1.mono bb.size)) (And.intro na1 nb1))
    obtain ⟨x_0, x_1, x_2, x_3, x_4, xf⟩ := cl5 na1
    obtain ⟨y_0, y_1, y_2, y_3, y_4, yf⟩ := cl5 nb1
    clear bb na nb b1 na1 nb1
    cases s1 with
    | false =>
      go_wp2_with fail
      go_ret
      exact ⟨rfl, (unhide BB1).1⟩
    | true =>
      have hcl := unhide H2 _ (unhide BB1).1
      go_wp2_with fail
      refine hcl.mono ?_
      clear hcl
      rintro en w2 ⟨rfl, b2⟩
      obtain ⟨bb, na, nb⟩ := unhide BB1
      have na2 := (b2.block _ (lt_hp na)).trans na
      have nb2 := (b2.block _ (lt_hp nb)).trans nb
      have BB2 := hide (And.intro (bb.trans (b2.mono bb.size)) (And.intro na2 nb2))
      obtain ⟨x_0, x_1, x_2, x_3, x_4, xf⟩ := cl5 na2
      obtain ⟨y_0, y_1, y_2, y_3, y_4, yf⟩ := cl5 nb2
      clear bb na nb b2 na2 nb2
      cases s2 with
      | false =>
        go_wp2_with fail
        go_ret
        exact ⟨rfl, (unhide BB2).1⟩
      | true =>
        have hcl := unhide H3 _ (unhide BB2).1
        go_wp2_with fail
        refine hcl.mono ?_
        clear hcl
        rintro en w3 ⟨rfl, b3⟩
        obtain ⟨bb, na, nb⟩ := unhide BB2
        have na3 := (b3.block _ (lt_hp na)).trans na
        have nb3 := (b3.block _ (lt_hp nb)).trans nb
        have BB3 := hide (And.intro (bb.trans (b3.mono bb.size)) (And.intro na3 nb3))
        obtain ⟨x_0, x_1, x_2, x_3, x_4, xf⟩ := cl5 na3
        obtain ⟨y_0, y_1, y_2, y_3, y_4, yf⟩ := cl5 nb3
        clear bb na nb b3 na3 nb3
        cases s3 with
        | false =>
          go_wp2_with fail
          go_ret
          exact ⟨rfl, (unhide BB3).1⟩
        | true =>
          have hcl := unhide H4 _ (unhide BB3).1
          go_wp2_with fail
          refine hcl.mono ?_
          clear hcl
          rintro en w4 ⟨rfl, b4⟩
          obtain ⟨bb, na, nb⟩ := unhide BB3
          have na4 := (b4.block _ (lt_hp na)).trans na
          have nb4 := (b4.block _ (lt_hp nb)).trans nb
          have BB4 := hide (And.intro (bb.trans (b4.mono bb.size)) (And.intro na4 nb4))
          obtain ⟨x_0, x_1, x_2, x_3, x_4, xf⟩ := cl5 na4
          obtain ⟨y_0, y_1, y_2, y_3, y_4, yf⟩ := cl5 nb4
          clear bb na nb b4 na4 nb4
          cases s4 with
          | false =>
            go_wp2_with fail
            go_ret
            exact ⟨rfl, (unhide BB4).1⟩
          | true =>
            go_wp2_with fail
            go_ret
            exact ⟨rfl, (unhide BB4).1⟩
end Go.Proofs.YtdjehbdpcdikkaaGreatDoor

namespace Go.Proofs.YtdjehbdpcdikkaaGreatDoor
open Go.RowKit Go.Maps

mutual
/-- The same expression, places aside? -/
def eqE : Ex → Ex → Bool
  | .mk k n s ks _, .mk k' n' s' ks' _ => decide (k = k') && decide (n = n') && decide (s = s') && eqEs ks ks'
def eqEs : List Ex → List Ex → Bool
  | [], [] => true
  | x :: xs, y :: ys => eqE x y && eqEs xs ys
  | _, _ => false
end
theorem eqL_cons {α : Type} (eq : α → α → Bool) (x y : α) (xs ys : List α) : eqL eq (x :: xs) (y :: ys) = (eq x y && eqL eq xs ys) := by
  unfold eqL
  simp only [List.length_cons, List.zip_cons_cons, List.all_cons, Nat.add_right_cancel_iff]
  cases eq x y <;> simp
theorem eqEs_eq : ∀ xs ys : List Ex, eqEs xs ys = eqL eqE xs ys
  | [], [] => by simp [eqEs, eqL]
  | [], y :: ys => by simp [eqEs, eqL]
  | x :: xs, [] => by simp [eqEs, eqL]
  | x :: xs, y :: ys => by rw [eqL_cons, eqEs, eqEs_eq xs ys]
theorem eqE_eq (x y : Ex) : eqE x y = (decide (x.kind = y.kind) && decide (x.num = y.num) && decide (x.txt = y.txt) && eqL eqE x.kids y.kids) := by
  cases x with
  | mk k n s ks a =>
    cases y with
    | mk k' n' s' ks' a' => rw [eqE, eqEs_eq]; rfl
def eqA (x y : Atm) : Bool := decide (x.rel = y.rel) && eqL eqE x.args y.args
def eqLt (x y : Lt) : Bool := decide (x.kind = y.kind) && eqA x.atom y.atom && decide (x.op = y.op) && eqE x.l y.l && eqE x.r y.r
def eqCt (x y : Ctr) : Bool := decide (x.name = y.name) && eqL eqFd x.fields y.fields
def eqTy (x y : Typ) : Bool := decide (x.name = y.name) && decide (x.sub = y.sub) && eqL eqCt x.ctors y.ctors
def eqDc (x y : Dcl) : Bool := decide (x.name = y.name) && eqL eqFd x.cols y.cols && decide (x.input = y.input) && decide (x.output = y.output)
def eqIn (x y : Ini) : Bool := decide (x.name = y.name) && decide (x.comp = y.comp)
def eqCl (x y : Cls) : Bool := eqA x.head y.head && eqL eqLt x.body y.body
mutual
/-- The same program, places aside? -/
def eqPg : Pg → Pg → Bool
  | .mk ts ds cs is ls, .mk ts' ds' cs' is' ls' => eqL eqTy ts ts' && eqL eqDc ds ds' && eqCps cs cs' && eqL eqIn is is' && eqL eqCl ls ls'
def eqCps : List Cp → List Cp → Bool
  | [], [] => true
  | (n, bs, p, _) :: xs, (n', bs', p', _) :: ys => (decide (n = n') && eqL eqTx bs bs' && eqPg p p') && eqCps xs ys
  | _, _ => false
end
def eqCp (x y : Cp) : Bool := decide (x.1 = y.1) && eqL eqTx x.2.1 y.2.1 && eqPg x.2.2.1 y.2.2.1
theorem eqCps_eq : ∀ xs ys : List Cp, eqCps xs ys = eqL eqCp xs ys
  | [], [] => by simp [eqCps, eqL]
  | [], y :: ys => by simp [eqCps, eqL]
  | x :: xs, [] => by simp [eqCps, eqL]
  | (n, bs, p, a) :: xs, (n', bs', p', a') :: ys => by rw [eqL_cons, eqCps, eqCps_eq xs ys]; rfl
theorem eqPg_eq (p q : Pg) : eqPg p q = (eqL eqTy p.types q.types && eqL eqDc p.decls q.decls && eqL eqCp p.comps q.comps && eqL eqIn p.inits q.inits && eqL eqCl p.clauses q.clauses) := by
  cases p
  cases q
  rw [eqPg, eqCps_eq]
  rfl

theorem exS_one (S : Nat → Prop) (w : World) (cs : List Value) (x : Ex) (h : PE S w cs x) : ∀ c ∈ cs, c.oneCell' = true := by
  obtain ⟨v, rfl, ⟨ao, cap, rfl⟩, _⟩ := h.cells
  simp [Value.oneCell', str]
theorem pc_one (S : Nat → Prop) (w : World) (cs : List Value) (x : Ctr) (h : PC S w cs x) : ∀ c ∈ cs, c.oneCell' = true := by
  obtain ⟨_, _, _, rfl, _⟩ := h
  simp [Value.oneCell', str]
theorem pty_one (S : Nat → Prop) (w : World) (cs : List Value) (x : Typ) (h : PTy S w cs x) : ∀ c ∈ cs, c.oneCell' = true := by
  obtain ⟨_, _, _, rfl, _⟩ := h
  simp [Value.oneCell', str]
theorem pdc_one (S : Nat → Prop) (w : World) (cs : List Value) (x : Dcl) (h : PDc S w cs x) : ∀ c ∈ cs, c.oneCell' = true := by
  obtain ⟨_, _, _, rfl, _⟩ := h
  simp [Value.oneCell', str]
theorem pin_one (S : Nat → Prop) (w : World) (cs : List Value) (x : Ini) (h : PIn S w cs x) : ∀ c ∈ cs, c.oneCell' = true := by
  have e : cs = _ := h
  subst e
  simp [Value.oneCell', str]
theorem pcl_one (S : Nat → Prop) (w : World) (cs : List Value) (x : Cls) (h : PCl S w cs x) : ∀ c ∈ cs, c.oneCell' = true := by
  obtain ⟨_, _, _, _, _, _, rfl, _⟩ := h
  simp [Value.oneCell', str]
theorem list5 {a b c d e a' b' c' d' e' : Value} (h : [a, b, c, d, e] = [a', b', c', d', e']) : a = a' ∧ b = b' ∧ c = c' ∧ d = d' ∧ e = e' := by simpa using h

/-- Two expressions. -/
theorem sameE_any (x : Ex) : ∀ (y : Ex) (S : Nat → Prop) (w : World) (c0 c1 c2 c3 c4 d0 d1 d2 d3 d4 : Value), ExS S w [c0, c1, c2, c3, c4] x → ExS S w [d0, d1, d2, d3, d4] y →
    Calls Tryz.prog 95 #[.agg #[c0, c1, c2, c3, c4], .agg #[d0, d1, d2, d3, d4]] w fun en w' => en = .returned (.bool (eqE x y)) ∧ Below w.heap.size w w' :=
  match x with
  | .mk k n s ks a => fun y S w c0 c1 c2 c3 c4 d0 d1 d2 d3 d4 hx hy => by
    obtain ⟨v, ex, ⟨xa, xc, rfl⟩, hkx⟩ := hx.cells
    obtain ⟨u, ey, ⟨ya, yc, rfl⟩, hky⟩ := hy.cells
    simp only [List.cons.injEq, and_true] at ex ey
    obtain ⟨rfl, rfl, rfl, rfl, rfl⟩ := ex
    obtain ⟨rfl, rfl, rfl, rfl, rfl⟩ := ey
    rw [eqE_eq]
    refine sameExprs_ch rfl rfl rfl (fun w' hb => ?_)
    refine (eqf_e exS_ok exS_one eqE (hkx.later exS_ok hb) (hky.later exS_ok hb) (fun j x1 y1 hx1 hy1 w1 e0 e1 e2 e3 e4 f0 f1 f2 f3 f4 _ h1 h2 => ?_)).mono (fun _ _ h => h)
    have hm : x1 ∈ ks := List.mem_of_getElem? hx1
    exact sameE_any x1 y1 S w1 e0 e1 e2 e3 e4 f0 f1 f2 f3 f4 h1 h2
termination_by SizeOf.sizeOf x
decreasing_by
  have := List.sizeOf_lt_of_mem hm
  simp only [Ex.mk.sizeOf_spec]
  omega
theorem sameA_any {x y : Atm} {S : Nat → Prop} {w : World} {xa ya : Option Addr} {xn xc yn yc : Nat} (hx : LsAt PE 5 S w (.slice xa xn xc) x.args) (hy : LsAt PE 5 S w (.slice ya yn yc) y.args) :
    Calls Tryz.prog 65 #[.agg #[str x.rel, .slice xa xn xc, .int .i64 x.at_], .agg #[str y.rel, .slice ya yn yc, .int .i64 y.at_]] w fun en w' => en = .returned (.bool (eqA x y)) ∧ Below w.heap.size w w' := by
  unfold eqA
  exact sameAtoms_ch rfl (fun w' hb => eqf_e exS_ok exS_one eqE (hx.later exS_ok hb) (hy.later exS_ok hb) (fun j x1 y1 _ _ w1 e0 e1 e2 e3 e4 f0 f1 f2 f3 f4 _ h1 h2 => sameE_any x1 y1 S w1 e0 e1 e2 e3 e4 f0 f1 f2 f3 f4 h1 h2))
theorem sameL_any {x y : Lt} {S : Nat → Prop} {w : World} {cs ds : List Value} (hx : PLt S w cs x) (hy : PLt S w ds y) :
    Calls Tryz.prog 67 #[.agg cs.toArray, .agg ds.toArray] w fun en w' => en = .returned (.bool (eqLt x y)) ∧ Below w.heap.size w w' := by
  obtain ⟨_, _, _, _, _, _, _, _, _, rfl, h1, h2, h3⟩ := hx
  obtain ⟨_, _, _, _, _, _, _, _, _, rfl, g1, g2, g3⟩ := hy
  unfold eqLt
  refine sameLits_ch rfl (fun w' hb => ?_) rfl (fun w' hb => ?_) (fun w' hb => ?_)
  · exact sameA_any (h1.later exS_ok hb) (g1.later exS_ok hb)
  · exact sameE_any _ _ S _ _ _ _ _ _ _ _ _ _ _ (exS_ok.same _ _ _ _ _ h2 hb.size (fun b _ hl => hb.block b hl)) (exS_ok.same _ _ _ _ _ g2 hb.size (fun b _ hl => hb.block b hl))
  · exact sameE_any _ _ S _ _ _ _ _ _ _ _ _ _ _ (exS_ok.same _ _ _ _ _ h3 hb.size (fun b _ hl => hb.block b hl)) (exS_ok.same _ _ _ _ _ g3 hb.size (fun b _ hl => hb.block b hl))
theorem sameC_any {x y : Ctr} {S : Nat → Prop} {w : World} {cs ds : List Value} (hx : PC S w cs x) (hy : PC S w ds y) :
    Calls Tryz.prog 62 #[.agg cs.toArray, .agg ds.toArray] w fun en w' => en = .returned (.bool (eqCt x y)) ∧ Below w.heap.size w w' := by
  obtain ⟨_, _, _, rfl, h1⟩ := hx
  obtain ⟨_, _, _, rfl, g1⟩ := hy
  unfold eqCt
  exact sameCtors_ch rfl (fun w' hb => equal_f (h1.later pf_ok hb) (g1.later pf_ok hb))
theorem sameT_any {x y : Typ} {S : Nat → Prop} {w : World} {cs ds : List Value} (hx : PTy S w cs x) (hy : PTy S w ds y) :
    Calls Tryz.prog 24 #[.agg cs.toArray, .agg ds.toArray] w fun en w' => en = .returned (.bool (eqTy x y)) ∧ Below w.heap.size w w' := by
  obtain ⟨_, _, _, rfl, h1⟩ := hx
  obtain ⟨_, _, _, rfl, g1⟩ := hy
  unfold eqTy
  exact sameTypes_ch rfl rfl (fun w' hb => eqf_c pc_ok pc_one eqCt (h1.later pc_ok hb) (g1.later pc_ok hb) (fun j x1 y1 _ _ w1 e0 e1 f0 f1 _ h1 h2 => sameC_any h1 h2))
theorem sameD_any {x y : Dcl} {S : Nat → Prop} {w : World} {cs ds : List Value} (hx : PDc S w cs x) (hy : PDc S w ds y) :
    Calls Tryz.prog 26 #[.agg cs.toArray, .agg ds.toArray] w fun en w' => en = .returned (.bool (eqDc x y)) ∧ Below w.heap.size w w' := by
  obtain ⟨_, _, _, rfl, h1⟩ := hx
  obtain ⟨_, _, _, rfl, g1⟩ := hy
  unfold eqDc
  exact sameDecls_ch rfl (fun w' hb => equal_f (h1.later pf_ok hb) (g1.later pf_ok hb)) rfl rfl
theorem sameI_any {x y : Ini} {S : Nat → Prop} {w : World} {cs ds : List Value} (hx : PIn S w cs x) (hy : PIn S w ds y) :
    Calls Tryz.prog 30 #[.agg cs.toArray, .agg ds.toArray] w fun en w' => en = .returned (.bool (eqIn x y)) ∧ Below w.heap.size w w' := by
  have e1 : cs = _ := hx
  have e2 : ds = _ := hy
  subst e1
  subst e2
  unfold eqIn
  exact sameInits_ch rfl rfl
theorem sameQ_any {x y : Cls} {S : Nat → Prop} {w : World} {cs ds : List Value} (hx : PCl S w cs x) (hy : PCl S w ds y) :
    Calls Tryz.prog 32 #[.agg cs.toArray, .agg ds.toArray] w fun en w' => en = .returned (.bool (eqCl x y)) ∧ Below w.heap.size w w' := by
  obtain ⟨_, _, _, _, _, _, rfl, h1, h2⟩ := hx
  obtain ⟨_, _, _, _, _, _, rfl, g1, g2⟩ := hy
  unfold eqCl
  exact sameClauses_ch (fun w' hb => sameA_any (h1.later exS_ok hb) (g1.later exS_ok hb)) (fun w' hb => eqf_l plt_ok (fun _ _ _ _ h => plt_one h) eqLt (h2.later plt_ok hb) (g2.later plt_ok hb) (fun j x1 y1 _ _ w1 _ _ _ _ _ _ _ _ _ _ _ _ _ _ _ _ _ _ _ _ _ _ _ _ _ _ _ _ _ _ _ _ _ h1 h2 => sameL_any h1 h2))
set_option maxRecDepth 100000 in
/-- Two programs. -/
theorem samePg_any (p : Pg) : ∀ (q : Pg) (S : Nat → Prop) (w : World) (c0 c1 c2 c3 c4 d0 d1 d2 d3 d4 : Value), PgS S w [c0, c1, c2, c3, c4] p → PgS S w [d0, d1, d2, d3, d4] q →
    Calls Tryz.prog 9 #[.agg #[c0, c1, c2, c3, c4], .agg #[d0, d1, d2, d3, d4]] w fun en w' => en = .returned (.bool (eqPg p q)) ∧ Below w.heap.size w w' :=
  match p with
  | .mk ts ds cs is ls => fun q S w c0 c1 c2 c3 c4 d0 d1 d2 d3 d4 hx hy => by
    obtain ⟨v0, v1, v2, v3, v4, ex, h0, h1, h2, h3, h4⟩ := hx.cells
    obtain ⟨u0, u1, u2, u3, u4, ey, g0, g1, g2, g3, g4⟩ := hy.cells
    obtain ⟨rfl, rfl, rfl, rfl, rfl⟩ := list5 ex
    obtain ⟨rfl, rfl, rfl, rfl, rfl⟩ := list5 ey
    obtain ⟨_, _, rfl⟩ := h0.sl
    obtain ⟨_, _, rfl⟩ := h1.sl
    obtain ⟨_, _, rfl⟩ := h2.sl
    obtain ⟨_, _, rfl⟩ := h3.sl
    obtain ⟨_, _, rfl⟩ := h4.sl
    obtain ⟨_, _, rfl⟩ := g0.sl
    obtain ⟨_, _, rfl⟩ := g1.sl
    obtain ⟨_, _, rfl⟩ := g2.sl
    obtain ⟨_, _, rfl⟩ := g3.sl
    obtain ⟨_, _, rfl⟩ := g4.sl
    rw [eqPg_eq]
    refine Same_ch (fun w' hb => ?_) (fun w' hb => ?_) (fun w' hb => ?_) (fun w' hb => ?_) (fun w' hb => ?_)
    · exact eqf_t pty_ok pty_one eqTy (h0.later pty_ok hb) (g0.later pty_ok hb) (fun j x1 y1 _ _ w1 _ _ _ _ _ _ _ _ _ a1 a2 => sameT_any a1 a2)
    · exact eqf_d pdc_ok pdc_one eqDc (h1.later pdc_ok hb) (g1.later pdc_ok hb) (fun j x1 y1 _ _ w1 _ _ _ _ _ _ _ _ _ _ _ a1 a2 => sameD_any a1 a2)
    · refine (eqf_p pco_ok (fun _ _ _ _ h => pco_one h) eqCp (h2.later pco_ok hb) (g2.later pco_ok hb) (fun j x1 y1 hx1 hy1 w1 _ _ _ _ _ _ _ _ _ _ _ _ _ _ _ _ _ a1 a2 => ?_)).mono (fun _ _ h => h)
      obtain ⟨vb, bd, e1, e2, e3, e4⟩ := a1
      obtain ⟨vb', bd', e1', e2', e3', e4'⟩ := a2
      obtain ⟨t0, t1, t2, t3, t4, rfl, k0, k1, k2, k3, k4⟩ := e4.cells
      obtain ⟨s0, s1, s2, s3, s4, rfl, m0, m1, m2, m3, m4⟩ := e4'.cells
      obtain ⟨_, _, rfl⟩ := e3.sl
      obtain ⟨_, _, rfl⟩ := e3'.sl
      obtain ⟨_, _, rfl⟩ := k0.sl
      obtain ⟨_, _, rfl⟩ := k1.sl
      obtain ⟨_, _, rfl⟩ := k2.sl
      obtain ⟨_, _, rfl⟩ := k3.sl
      obtain ⟨_, _, rfl⟩ := k4.sl
      obtain ⟨_, _, rfl⟩ := m0.sl
      obtain ⟨_, _, rfl⟩ := m1.sl
      obtain ⟨_, _, rfl⟩ := m2.sl
      obtain ⟨_, _, rfl⟩ := m3.sl
      obtain ⟨_, _, rfl⟩ := m4.sl
      simp only [List.cons_append, List.nil_append, List.cons.injEq, and_true] at e1 e1'
      obtain ⟨rfl, rfl, rfl, rfl, rfl, rfl, rfl, rfl⟩ := e1
      obtain ⟨rfl, rfl, rfl, rfl, rfl, rfl, rfl, rfl⟩ := e1'
      have hm : x1 ∈ cs := List.mem_of_getElem? hx1
      unfold eqCp
      refine sameComps_ch rfl (fun w' hb => equal_s (e3.later pst_ok hb) (e3'.later pst_ok hb)) (fun w' hb => ?_)
      exact samePg_any x1.2.2.1 y1.2.2.1 S w' _ _ _ _ _ _ _ _ _ _ (pgS_ok.same _ _ _ _ _ e4 hb.size (fun b _ hl => hb.block b hl)) (pgS_ok.same _ _ _ _ _ e4' hb.size (fun b _ hl => hb.block b hl))
    · exact eqf_i pin_ok pin_one eqIn (h3.later pin_ok hb) (g3.later pin_ok hb) (fun j x1 y1 _ _ w1 _ _ _ _ _ _ _ a1 a2 => sameI_any a1 a2)
    · exact eqf_q pcl_ok pcl_one eqCl (h4.later pcl_ok hb) (g4.later pcl_ok hb) (fun j x1 y1 _ _ w1 _ _ _ _ _ _ _ _ _ _ _ a1 a2 => sameQ_any a1 a2)
termination_by SizeOf.sizeOf p
decreasing_by
  have h1 := List.sizeOf_lt_of_mem hm
  have h2 : SizeOf.sizeOf x1.2.2.1 < SizeOf.sizeOf x1 := by
    obtain ⟨a, b, c, d⟩ := x1
    simp only [Prod.mk.sizeOf_spec]
    omega
  simp only [Pg.mk.sizeOf_spec]
  omega
end Go.Proofs.YtdjehbdpcdikkaaGreatDoor
