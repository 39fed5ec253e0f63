/- The law's same and walked. alive. alive: the walk. A relation of any width, and what was there ahead of it. -/
import Derived.Test.YthcljhfankooaabGreatMRows
import Derived.Laws.FloatArith
namespace Go.Proofs.YthcljhfankooaabGreat
open Go.RowKit Go.Shelf

theorem DRowsAt.later {B : Nat → Prop} {w w' : World} {v : Value} {R : List Nrow} (h : DRowsAt B w v R) (hb : Below w.heap.size w w') : DRowsAt B w' v R := by
  obtain ⟨a, cap, e1, e2, e3, e4⟩ := h
  refine ⟨a, cap, e1, e2, e3, fun j hj => ?_⟩
  obtain ⟨b, u, p, f1, f2, f3, f4, f5, f6, f7⟩ := e4 j hj
  have hc : ∀ {i : Nat} {x : Value}, w.cell? ⟨b, i, none⟩ = some x → w'.cell? ⟨b, i, none⟩ = some x := fun {i x} h => by
    obtain ⟨_, hz, _⟩ := cells_of_cell h
    exact (hb.cell (p := ⟨b, i, none⟩) (lt_heap hz)).trans h
  exact ⟨b, u, p, f1, f2, f3, hc f4, hc f5, hc f6, f7.later hb⟩
def SmR (w : World) (R : List Nrow) (i : Value) (wr : World) : Prop := ∃ k : Nat, k ≤ R.length ∧ i = .int .i64 (k : Int) ∧ Below w.heap.size w wr

set_option maxRecDepth 100000 in
set_option maxHeartbeats 4000000 in
theorem same_rows (B1 B2 : Nat → Prop) (w : World) (v1 v2 : Value) (R : List Nrow) (h1 : DRowsAt B1 w v1 R) (h2 : DRowsAt B2 w v2 R) :
    Calls Tryz.prog 32 #[v1, v2] w fun e w' => e = .returned (.bool true) ∧ Below w.heap.size w w' := by
  have mixed : Tryz.prog.follows .mixedOrders = true := by kernel_rfl
  obtain ⟨a1, c1, rfl, g1, g2, _⟩ := id h1
  obtain ⟨a2, c2, rfl, g3, g4, _⟩ := id h2
  have HH := hide (And.intro h1 h2)
  clear h1 h2
  go_enter Tryz.func32, Tryz.ntmps32
  go_wp2_with fail
  go_loopw [13] (fun i wr => SmR w R i wr) (fun i _ => R.length - (intOf i).toNat)
  case atStart => exact ⟨0, Nat.zero_le _, rfl, Below.refl _ _⟩
  case round =>
    obtain ⟨k, hk, rfl, hb⟩ := hrel
    by_cases hlt : k < R.length
    · obtain ⟨x1, y1, e1, _, _, f1⟩ := (unhide HH).1.later hb
      obtain ⟨x2, y2, e2, _, _, f2⟩ := (unhide HH).2.later hb
      simp only [Value.slice.injEq] at e1 e2
      obtain ⟨b1, u1, p1, i1, _, i3, i4, i5, i6, i7⟩ := f1 k hlt
      obtain ⟨b2, u2, p2, j1, _, j3, j4, j5, j6, j7⟩ := f2 k hlt
      have ep : p2 = p1 := Option.some.inj (j3.symm.trans i3)
      have ea1 : a1 = some ⟨b1, 0, none⟩ := e1.1.trans i1
      have ea2 : a2 = some ⟨b2, 0, none⟩ := e2.1.trans j1
      rw [ep] at j5 j6 j7
      have hlb1 : b1 < wr.heap.size := by obtain ⟨_, hz, _⟩ := cells_of_cell i4; exact lt_heap hz
      have hlb2 : b2 < wr.heap.size := by obtain ⟨_, hz, _⟩ := cells_of_cell j4; exact lt_heap hz
      have CELL : Hid (∀ v, Below wr.heap.size wr v → v.cell? ⟨b1, k * 3, none⟩ = some u1 ∧ v.cell? ⟨b1, k * 3 + 1, none⟩ = some (.int .i64 p1.2.1) ∧ v.cell? ⟨b1, k * 3 + 2, none⟩ = some (.int .i64 p1.2.2) ∧ v.cell? ⟨b2, k * 3, none⟩ = some u2 ∧ v.cell? ⟨b2, k * 3 + 1, none⟩ = some (.int .i64 p1.2.1) ∧ v.cell? ⟨b2, k * 3 + 2, none⟩ = some (.int .i64 p1.2.2)) := fun v hv =>
        ⟨(hv.cell (p := ⟨b1, k * 3, none⟩) hlb1).trans i4, (hv.cell (p := ⟨b1, k * 3 + 1, none⟩) hlb1).trans i5, (hv.cell (p := ⟨b1, k * 3 + 2, none⟩) hlb1).trans i6, (hv.cell (p := ⟨b2, k * 3, none⟩) hlb2).trans j4, (hv.cell (p := ⟨b2, k * 3 + 1, none⟩) hlb2).trans j5, (hv.cell (p := ⟨b2, k * 3 + 2, none⟩) hlb2).trans j6⟩
      have hsm := same_any wr.drew.heap.size wr.drew u1 u2 p1.1 p1.1 (Nat.le_refl _) (i7.later ((Below.refl _ wr).drew)).ints (j7.later ((Below.refl _ wr).drew)).ints
      rw [show sameB p1.1 p1.1 = true by simp [sameB]] at hsm
      obtain ⟨ua1, uc1, eu1, _⟩ := id i7
      obtain ⟨ua2, uc2, eu2, _⟩ := id j7
      subst ea1
      subst ea2
      subst eu1
      subst eu2
      have HB := hide hb
      clear f1 f2 e1 e2 i1 i3 i4 i5 i6 i7 j1 j3 j4 j5 j6 j7 ep hlb1 hlb2 hb
      go_wp2_with fail
      refine region_mixN (md := [(0, true), (1, true), (2, true), (3, true), (4, true), (5, true), (6, true), (7, true), (8, true), (9, true), (10, false), (11, true), (12, true), (13, true), (14, true), (15, true), (16, true), (17, true), (18, true), (19, true), (20, true), (21, true), (22, true), (23, true), (24, true), (25, true), (26, true), (27, true), (28, true), (29, true), (30, true), (31, true), (32, true), (33, true), (34, true), (35, true), (36, true), (37, true)]) (fun w' => Below wr.heap.size wr w') mixed (by kernel_rfl) rfl (by kernel_rfl) (fun PP hPP => ?_)
      iterate 10 (refine wpMix_take (v := ?_) rfl (by kernel_rfl) (fun w' hw => ?_) ?_; rotate_left; · (obtain ⟨q1, q2, q3, q4, q5, q6⟩ := unhide CELL w' hw; go_simp; try with_reducible rfl))
      refine wpMix_force rfl ((Below.refl _ wr).drew) (fun K hK => ?_)
      go_simp
      refine hsm.mono ?_
      clear hsm
      rintro e v5 ⟨rfl, b5'⟩
      have B5 : Hid (Below wr.heap.size wr v5) := ((Below.refl _ wr).drew).trans b5'
      clear b5'
      go_wp2_with fail
      iterate 14 (refine wpMix_take (v := ?_) rfl (by kernel_rfl) (fun w' hw => ?_) ?_; rotate_left; · (obtain ⟨q1, q2, q3, q4, q5, q6⟩ := unhide CELL w' hw; go_simp; try with_reducible rfl))
      iterate 13 (refine wpMix_take (v := ?_) rfl (by kernel_rfl) (fun w' hw => ?_) ?_; rotate_left; · (obtain ⟨q1, q2, q3, q4, q5, q6⟩ := unhide CELL w' hw; go_simp; try with_reducible rfl))
      refine wpMix_nil (unhide B5) (hPP _ _ ?_)
      clear hPP
      simp [Act.put, Array.setIfInBounds]
      go_wp2_with fail
      go_roundw
      case rel => exact ⟨k + 1, by omega, by go_num, (unhide HB).trans ((unhide B5).mono (unhide HB).size)⟩
      case measure => simp [intOf]; omega
    · have HB := hide hb
      have hg : ¬ ((k : Int) < (R.length : Int)) := by omega
      clear hb
      go_wp2_with fail
      go_ret
      exact ⟨rfl, unhide HB⟩
end Go.Proofs.YthcljhfankooaabGreat

namespace Go.Proofs.YthcljhfankooaabGreat
open Go.RowKit Go.Shelf

theorem eg_find1 : ∀ args w, (callFunc 37 args).run Tryz.prog w = .ok (.enter 37 args) w := enters_of Tryz.func37 (by kernel_rfl) rfl

set_option maxRecDepth 100000 in
set_option maxHeartbeats 4000000 in
theorem walked_any (B : Nat → Prop) (w : World) (g : Nat) (lb : Array Value) (R : List Nrow) (wv : Value) (hg : ∀ W, Step w.heap.size w W → GoesAtP g lb R.length (HandsP R) (fun _ => False) W) (eg : ∀ args w, (callFunc g args).run Tryz.prog w = .ok (.enter g args) w) (hN : R.length ≤ 1024) (hR : NsOk R) (hW : DRowsAt B w wv R) :
    Calls Tryz.prog 12 #[.func (.func g) #[] lb, wv] w fun e w' => e = .returned (.bool true) ∧ Below w.heap.size w w' := by
  have hrw := rows_any w g lb R hg eg hN hR
  have HW := hide hW
  clear hg eg hN hR hW
  go_enter Tryz.func12, Tryz.ntmps12
  go_wp2_with fail
  refine hrw.mono ?_
  clear hrw
  rintro e w1 ⟨rv, rfl, hD, b1⟩
  have hsm := same_rows _ B w1 rv wv R hD ((unhide HW).later b1)
  have B1 := hide b1
  clear hD b1
  go_wp2_with fail
  refine hsm.mono ?_
  clear hsm
  rintro e w2 ⟨rfl, b2⟩
  have B2 : Hid (Below w.heap.size w w2) := (unhide B1).trans (b2.mono (unhide B1).size)
  clear b2
  go_wp2_with fail
  go_ret
  exact ⟨rfl, unhide B2⟩

theorem lit1 (w : World) (a : Int) : Ints (w.alloc (.cells #[.int .i64 a] 3)).heap.size (w.alloc (.cells #[.int .i64 a] 3)) (.slice (some ⟨w.heap.size, 0, none⟩) 1 1) [a] := by
  have hn := World.alloc_heap_new w (.cells #[.int .i64 a] 3)
  refine ⟨_, 1, rfl, Nat.le_refl _, by omega, fun j x hj => ⟨w.heap.size, 0, rfl, by simp, ?_⟩⟩
  match j, hj with
  | 0, hj => simp at hj; subst hj; rw [cell_at hn]; rfl
theorem litS (S : Nat → Prop) (w : World) (a b : Int) (h : S w.heap.size) : IntsS S (w.alloc (.cells #[.int .i64 a, .int .i64 b] 3)) (.slice (some ⟨w.heap.size, 0, none⟩) 2 2) [a, b] := by
  have hn := World.alloc_heap_new w (.cells #[.int .i64 a, .int .i64 b] 3)
  refine ⟨_, 2, rfl, Nat.le_refl _, by omega, fun j hj => ⟨w.heap.size, 0, rfl, h, ?_⟩⟩
  match j, hj with
  | 0, _ => rw [cell_at hn]; rfl
  | 1, _ => rw [cell_at hn]; rfl
  | j + 2, hj => exact absurd (show j + 2 < 2 from hj) (by omega)
theorem allocB (w : World) (o : Obj) : Below w.heap.size w (w.alloc o) := (Below.refl _ w).alloc (Nat.le_refl _) o
theorem f1 : floatOfInt .f64 1 = 4607182418800017408 := by decide
theorem f2 : floatOfInt .f64 2 = 4611686018427387904 := by decide
theorem f3 : floatOfInt .f64 3 = 4613937818241073152 := by decide
theorem f9 : floatOfInt .f64 9 = 4621256167635550208 := by decide
theorem bits31 : hgtB 4613937818241073152 4607182418800017408 = true ∧ partN 4613937818241073152 = 3 ∧ partN 4607182418800017408 = 1 := by
  have h3 := partB_int (n := 3) (by decide)
  have h1 := partB_int (n := 1) (by decide)
  rw [f3] at h3
  rw [f1] at h1
  exact ⟨by unfold hgtB; rw [h3.1, h1.1]; rfl, h3.2, h1.2⟩
theorem bits29 : hgtB 4611686018427387904 4621256167635550208 = true ∧ partN 4611686018427387904 = 2 ∧ partN 4621256167635550208 = 9 := by
  have h3 := partB_int (n := 2) (by decide)
  have h1 := partB_int (n := 9) (by decide)
  rw [f2] at h3
  rw [f9] at h1
  exact ⟨by unfold hgtB; rw [h3.1, h1.1]; rfl, h3.2, h1.2⟩
theorem note29 : noteV 2 9 = .complex .f64 4611686018427387904 4621256167635550208 := by unfold noteV; rw [f2, f9]
theorem found29 : IsFound ((1 : Nat) : Int) [1, 0] [([1, 2], 2, 9)] [([1, 2], 2, 9)] := ⟨by simp, fun p => ⟨fun h => ⟨h, by
    rw [List.mem_singleton] at h
    rw [h]; decide⟩, fun h => h.1⟩⟩
theorem put31 : rputB 4613937818241073152 4607182418800017408 [1, 2] 2 [] = true ∧ rputE 4613937818241073152 4607182418800017408 [1, 2] 2 [] = 0 ∧ rputTo 4613937818241073152 4607182418800017408 [1, 2] 2 [] = [([1, 2], 3, 1)] := by
  obtain ⟨h1, h2, h3⟩ := bits31
  refine ⟨by unfold rputB; rw [h1]; decide, by unfold rputE; rw [h1]; decide, ?_⟩
  unfold rputTo
  rw [h1, h2, h3]
  decide
theorem put29 : rputB 4611686018427387904 4621256167635550208 [1, 2] 2 [([1, 2], 3, 1)] = false ∧ rputE 4611686018427387904 4621256167635550208 [1, 2] 2 [([1, 2], 3, 1)] = 0 ∧ rputTo 4611686018427387904 4621256167635550208 [1, 2] 2 [([1, 2], 3, 1)] = [([1, 2], 2, 9)] := by
  obtain ⟨h1, h2, h3⟩ := bits29
  refine ⟨by unfold rputB; rw [h1]; decide, by unfold rputE; rw [h1]; decide, ?_⟩
  unfold rputTo
  rw [h1, h2, h3]
  decide
end Go.Proofs.YthcljhfankooaabGreat

namespace Go.Proofs.YthcljhfankooaabGreat
open Go.RowKit Go.Shelf

/-- The relation, and what was there ahead of it. -/
def RelIn (w : World) (rb : Nat) (ns : List Nrow) (W : World) : Prop := ∃ hb mb sh os, RelAt W rb hb mb sh 2 os ns ∧ (∀ b ∈ Dk hb mb sh, w.heap.size ≤ b) ∧ Below w.heap.size w W
theorem RelIn.later {w W W' : World} {rb : Nat} {ns : List Nrow} (h : RelIn w rb ns W) (hb : Below W.heap.size W W') : RelIn w rb ns W' := by
  obtain ⟨h1, h2, h3, h4, h5, h6, h7⟩ := h
  exact ⟨h1, h2, h3, h4, h5.later hb, h6, h7.trans (hb.mono h7.size)⟩
theorem put_in (w W : World) (rb : Nat) (ns : List Nrow) (h : RelIn w rb ns W) (x y : Nat) (hx : W64 x) (hy : W64 y) (hroom : ns.length < 1024) (a b : Int) (ha : -9223372036854775808 ≤ a) (hb' : -9223372036854775808 ≤ b) :
    Calls Tryz.prog 8 #[.pointer (some ⟨rb, 0, none⟩), .complex .f64 x y, .slice (some ⟨W.heap.size, 0, none⟩) 2 2] (W.alloc (.cells #[.int .i64 a, .int .i64 b] 3)) fun e w' => e = .returned (.tuple #[.bool (rputB x y [a, b] 2 ns), .int .i64 (rputE x y [a, b] 2 ns)]) ∧ RelIn w rb (rputTo x y [a, b] 2 ns) w' := by
  obtain ⟨hb, mb, sh, os, g5, h6, g7⟩ := h
  have h5 := g5.later (allocB W (.cells #[.int .i64 a, .int .i64 b] 3))
  have h7 : Below w.heap.size w (W.alloc (.cells #[.int .i64 a, .int .i64 b] 3)) := g7.trans ((allocB W _).mono g7.size)
  have hsz : (W.alloc (.cells #[.int .i64 a, .int .i64 b] 3)).heap.size = W.heap.size + 1 := by simp
  have hlt := g5.held.lt
  refine (rput_any _ rb hb mb 2 sh os ns h5 [a, b] _ (litS _ W a b (fun e => by have := hlt _ e; omega)) (fun n hn => ?_) x y hx hy (.inr hroom)).mono ?_
  · rcases List.mem_cons.1 hn with e | hn
    · omega
    · rw [List.mem_singleton.1 hn]; omega
  · rintro e w' ⟨rfl, r1, r2⟩
    exact ⟨rfl, hb, mb, sh, os, r1, h6, h7.trans (r2.below (by rw [hsz]; have := h7.size; rw [hsz] at this; omega) (fun q hq => h6 q hq))⟩

set_option maxRecDepth 100000 in
set_option maxHeartbeats 4000000 in
theorem alive_any (w : World) : Calls Tryz.prog 7 #[] w fun e w' => e = .returned (.bool true) ∧ Below w.heap.size w w' := by
  have hnew := relnew_ok (w.alloc (.cells #[.int .i64 1] 3)) 2 _ [1] (lit1 w 1) (by omega) (by decide) (fun _ e => e.elim)
  go_enter Tryz.func7, Tryz.ntmps7
  go_wp2_with fail
  refine hnew.mono ?_
  clear hnew
  rintro e w1 ⟨rb, hb, mb, sh, os, rfl, hR, hD, hrb, b1⟩
  have hI : RelIn w rb [] w1 := ⟨hb, mb, sh, os, hR, fun b hb => by have := hD b hb; simp at this; omega, (allocB w _).trans (b1.mono (by simp))⟩
  clear hR hD hrb b1
  have hp1 := put_in w w1 rb [] hI 4613937818241073152 4607182418800017408 (by unfold W64; omega) (by unfold W64; omega) (by decide) 1 2 (by omega) (by omega)
  rw [put31.1, put31.2.1, put31.2.2] at hp1
  clear hI
  go_wp2_with fail
  refine hp1.mono ?_
  clear hp1
  rintro e w2 ⟨rfl, hI2⟩
  have hp2 := put_in w w2 rb _ hI2 4611686018427387904 4621256167635550208 (by unfold W64; omega) (by unfold W64; omega) (by decide) 1 2 (by omega) (by omega)
  rw [put29.1, put29.2.1, put29.2.2] at hp2
  clear hI2
  go_wp2_with fail
  refine hp2.mono ?_
  clear hp2
  rintro e w3 ⟨rfl, hI3⟩
  have hnt : Calls Tryz.prog 13 #[.pointer (some ⟨rb, 0, none⟩), .slice (some ⟨w3.heap.size, 0, none⟩) 2 2] (w3.alloc (.cells #[.int .i64 1, .int .i64 2] 3)) fun e w' => e = .returned (.tuple #[.complex .f64 4611686018427387904 4621256167635550208, .bool true]) ∧ RelIn w rb [([1, 2], 2, 9)] w' := by
    have hI := hI3.later (allocB w3 (.cells #[.int .i64 1, .int .i64 2] 3))
    obtain ⟨hb, mb, sh, os, g5, h6, g7⟩ := id hI
    refine (rnote_any _ rb hb mb 2 sh os _ g5 [1, 2] _ (litS (fun _ => True) w3 1 2 trivial).ints).mono ?_
    rintro e w' ⟨rfl, b⟩
    exact ⟨by rw [← note29]; rfl, hI.later b⟩
  have HI3 := hide hI3
  clear hI3
  go_wp2_with fail
  refine hnt.mono ?_
  clear hnt
  rintro e w4 ⟨rfl, hI4⟩
  have hln : Calls Tryz.prog 17 #[.pointer (some ⟨rb, 0, none⟩)] w4 fun e w' => e = .returned (.int .i64 1) ∧ RelIn w rb [([1, 2], 2, 9)] w' := by
    obtain ⟨hb, mb, sh, os, g5, h6, g7⟩ := id hI4
    refine (rlen_any _ rb hb mb 2 sh os _ g5).mono ?_
    rintro e w' ⟨rfl, n, rfl⟩
    exact ⟨rfl, hI4.later (below_drewN (Below.refl _ w4) n)⟩
  have HI4 := hide hI4
  clear hI4
  have o1 : (FloatKind.f64.format.order 4611686018427387904 4611686018427387904 == some .eq) = true := by decide
  have o2 : (FloatKind.f64.format.order 4621256167635550208 4621256167635550208 == some .eq) = true := by decide
  go_wp2_with fail
  refine hln.mono ?_
  clear hln
  rintro e w5 ⟨rfl, hI5⟩
  have hfn := rfind_any (w5.alloc (.cells #[.int .i64 1, .int .i64 0] 3)) rb 1 [1, 0] _ (litS (fun _ => True) w5 1 0 trivial).ints (by decide)
  have HI5 := hide hI5
  clear hI5
  go_wp2_with fail
  refine hfn.mono ?_
  clear hfn
  rintro e w6 ⟨b3, b4, b7, rfl, hF, b6⟩
  have hI6 := ((unhide HI5).later (allocB w5 _)).later b6
  obtain ⟨w7, hw7⟩ : ∃ w7, w7 = w6.alloc (.cells #[.int .i64 1, .int .i64 2] 3) := ⟨_, rfl⟩
  obtain ⟨w8, hw8⟩ : ∃ w8, w8 = w7.alloc (.cells #[.slice (some ⟨w6.heap.size, 0, none⟩) 2 2, .int .i64 2, .int .i64 9] 69) := ⟨_, rfl⟩
  have b67 : Below w6.heap.size w6 w7 := by rw [hw7]; exact allocB w6 _
  have b78 : Below w7.heap.size w7 w8 := by rw [hw8]; exact allocB w7 _
  have b68 := b67.trans (b78.mono b67.size)
  have hg8 : w8.heap[w7.heap.size]? = some (.cells #[.slice (some ⟨w6.heap.size, 0, none⟩) 2 2, .int .i64 2, .int .i64 9] 69 (0, 0)) := by rw [hw8]; exact World.alloc_heap_new w7 _
  have hl7 : IntsS (fun _ => True) w7 (.slice (some ⟨w6.heap.size, 0, none⟩) 2 2) [1, 2] := by rw [hw7]; exact litS _ w6 1 2 trivial
  have hwant : DRowsAt (fun _ => True) w8 (.slice (some ⟨w7.heap.size, 0, none⟩) 1 1) [([1, 2], 2, 9)] := by
    refine ⟨_, 1, rfl, Nat.le_refl _, by omega, fun j hj => ?_⟩
    have ej : j = 0 := by simp at hj; omega
    subst ej
    exact ⟨w7.heap.size, _, _, rfl, trivial, rfl, by rw [cell_at hg8]; rfl, by rw [cell_at hg8]; rfl, by rw [cell_at hg8]; rfl, hl7.later b78⟩
  have hwk := walked_any (fun _ => True) w8 37 #[.pointer (some ⟨b3, 0, none⟩), .pointer (some ⟨b4, 0, none⟩), .pointer (some ⟨b7, 0, none⟩)] [([1, 2], 2, 9)] _ (fun W hs => by
    obtain ⟨hb, mb, sh, os, g5, h6, g7⟩ := (hI6.later b68).later (hs.below (Nat.le_refl _) (Nat.le_refl _))
    exact find1_goes W rb hb mb 2 sh os _ g5 [1, 0] rfl 1 (by decide) b3 b4 b7 ((hF.step (Step.of_below (base := 0) b68)).step hs) _ found29) eg_find1 (by decide) (fun p hp => by
    rw [List.mem_singleton] at hp
    rw [hp]; decide) hwant
  have H8 := hide (hI6.later b68)
  have HW7 := hide hw7
  have HW8 := hide hw8
  have hs7 : w7.heap.size = w6.heap.size + 1 := by rw [hw7]; simp
  clear hF b6 hI6 hw7 hw8 b67 b78 b68 hg8 hl7 hwant
  have HS7 := hide hs7
  rw [hs7] at hwk
  clear hs7
  go_wp2_with fail
  rw [← unhide HW7, ← unhide HW8]
  refine hwk.mono ?_
  clear hwk
  rintro e w9 ⟨rfl, b9⟩
  have B9 : Hid (Below w.heap.size w w9) := by
    obtain ⟨hb, mb, sh, os, g5, h6, g7⟩ := unhide H8
    exact g7.trans (b9.mono g7.size)
  clear b9
  go_wp2_with fail
  go_ret
  exact ⟨rfl, unhide B9⟩
end Go.Proofs.YthcljhfankooaabGreat

namespace Go.Proofs.YthcljhfankooaabGreat
open Go.RowKit Go.Shelf

theorem w64_of {b : Nat} (h : (Lit.float .f64 b).wf = true) : W64 b := by
  simp only [Lit.wf, decide_eq_true_eq] at h
  exact h
theorem w64_int (n : Int) : W64 (floatOfInt .f64 n) := w64_of (floatOfInt_wf .f64 n)
/-- The height and the rule of a note that was made. -/
theorem height_made (a k : Int) (ha : inN a = true) (hk : inN k = true) (w : World) : Calls Tryz.prog 26 #[noteV a k] w fun e w' => e = .returned (.tuple #[.int .i64 a, .int .i64 k, .bool true]) ∧ ∃ n, w' = w.drewN n := by
  obtain ⟨p1, p2⟩ := partB_int (inN_abs ha)
  obtain ⟨q1, q2⟩ := partB_int (inN_abs hk)
  have h := height_any (floatOfInt .f64 a) (floatOfInt .f64 k) (w64_int a) (w64_int k) w
  have hB : hgtB (floatOfInt .f64 a) (floatOfInt .f64 k) = true := by unfold hgtB; rw [p1, q1]; rfl
  unfold hgtN at h
  rw [hB, if_pos rfl, if_pos rfl, p2, q2] at h
  exact h

/-- New that is refused. -/
theorem relnew_no (w : World) (width : Int) (v : Value) (l : List Int) (h : Ints w.heap.size w v l) (hl : C.ordE width l ≠ 0) :
    Calls Tryz.prog 5 #[.int .i64 width, v] w fun e w' => e = .returned (.tuple #[.pointer none, .int .i64 (C.ordE width l)]) ∧ w' = w := by
  have ho := C.orders_no w width v l h hl
  obtain ⟨va, vc, rfl, _⟩ := id h
  have hz : (C.ordE width l != 0) = true := by simpa using hl
  generalize C.ordE width l = e8 at ho hz
  clear h hl
  go_enter Tryz.func5, Tryz.ntmps5
  go_wp2_with fail
  refine ho.mono ?_
  clear ho
  rintro e w' ⟨rfl, hw'⟩
  subst hw'
  go_wp2_with fail
  go_ret2
  exact ⟨rfl, rfl⟩

/-- The relation, and what was there ahead of it. -/
def RelIW (w : World) (rb wd : Nat) (ns : List Nrow) (W : World) : Prop := ∃ hb mb sh os, RelAt W rb hb mb sh wd os ns ∧ (∀ b ∈ Dk hb mb sh, w.heap.size ≤ b) ∧ Below w.heap.size w W
theorem RelIW.later {w W W' : World} {rb wd : Nat} {ns : List Nrow} (h : RelIW w rb wd ns W) (hb : Below W.heap.size W W') : RelIW w rb wd ns W' := by
  obtain ⟨h1, h2, h3, h4, h5, h6, h7⟩ := h
  exact ⟨h1, h2, h3, h4, h5.later hb, h6, h7.trans (hb.mono h7.size)⟩
theorem RelIW.below {w W : World} {rb wd : Nat} {ns : List Nrow} (h : RelIW w rb wd ns W) : Below w.heap.size w W := by
  obtain ⟨h1, h2, h3, h4, h5, h6, h7⟩ := h
  exact h7
theorem new_iw (w : World) (wd : Nat) (v : Value) (l : List Int) (h : Ints w.heap.size w v l) (hw : wd ≤ 8) (hl : C.lookE wd l = 0) :
    Calls Tryz.prog 5 #[.int .i64 (wd : Int), v] w fun e w' => ∃ rb, e = .returned (.tuple #[.pointer (some ⟨rb, 0, none⟩), .int .i64 0]) ∧ RelIW w rb wd [] w' := by
  refine (@relnew_ok xt0 w wd v l h hw hl (fun _ e => e.elim)).mono ?_
  rintro e w1 ⟨rb, hb, mb, sh, os, rfl, hR, hD, hrb, b1⟩
  exact ⟨rb, rfl, hb, mb, sh, os, hR, hD, b1⟩
theorem put_iw (w W : World) (rb wd : Nat) (ns : List Nrow) (h : RelIW w rb wd ns W) (tv : Value) (t : List Int) (ht : IntsS (fun b => b < w.heap.size) w tv t) (hB : Bnd t) (x y : Nat) (hx : W64 x) (hy : W64 y) (hroom : (getN t ns).isSome = true ∨ ns.length < 1024) :
    Calls Tryz.prog 8 #[.pointer (some ⟨rb, 0, none⟩), .complex .f64 x y, tv] W fun e w' => e = .returned (.tuple #[.bool (rputB x y t wd ns), .int .i64 (rputE x y t wd ns)]) ∧ RelIW w rb wd (rputTo x y t wd ns) w' := by
  obtain ⟨hb, mb, sh, os, h5, h6, h7⟩ := h
  refine (rput_any _ rb hb mb wd sh os ns h5 t tv ((ht.later h7).mono (fun b _ hlt hn => by have := h6 b hn; omega)) hB x y hx hy hroom).mono ?_
  rintro e w' ⟨rfl, r1, r2⟩
  exact ⟨rfl, hb, mb, sh, os, r1, h6, h7.trans (r2.below h7.size (fun q hq => h6 q hq))⟩
theorem has_iw (w W : World) (rb wd : Nat) (ns : List Nrow) (h : RelIW w rb wd ns W) (tv : Value) (t : List Int) (ht : IntsS (fun b => b < w.heap.size) w tv t) :
    Calls Tryz.prog 16 #[.pointer (some ⟨rb, 0, none⟩), tv] W fun e w' => e = .returned (.bool (ntcB t wd ns)) ∧ RelIW w rb wd ns w' := by
  obtain ⟨hb, mb, sh, os, h5, h6, h7⟩ := id h
  refine (rhas_any _ rb hb mb wd sh os ns h5 t tv (ht.later h7).ints).mono ?_
  rintro e w' ⟨rfl, b⟩
  exact ⟨rfl, h.later b⟩
theorem note_iw (w W : World) (rb wd : Nat) (ns : List Nrow) (h : RelIW w rb wd ns W) (tv : Value) (t : List Int) (ht : IntsS (fun b => b < w.heap.size) w tv t) :
    Calls Tryz.prog 13 #[.pointer (some ⟨rb, 0, none⟩), tv] W fun e w' => e = .returned (.tuple #[ntcV t wd ns, .bool (ntcB t wd ns)]) ∧ RelIW w rb wd ns w' := by
  obtain ⟨hb, mb, sh, os, h5, h6, h7⟩ := id h
  refine (rnote_any _ rb hb mb wd sh os ns h5 t tv (ht.later h7).ints).mono ?_
  rintro e w' ⟨rfl, b⟩
  exact ⟨rfl, h.later b⟩
theorem len_iw (w W : World) (rb wd : Nat) (ns : List Nrow) (h : RelIW w rb wd ns W) :
    Calls Tryz.prog 17 #[.pointer (some ⟨rb, 0, none⟩)] W fun e w' => e = .returned (.int .i64 (ns.length : Int)) ∧ RelIW w rb wd ns w' := by
  obtain ⟨hb, mb, sh, os, h5, h6, h7⟩ := id h
  refine (rlen_any _ rb hb mb wd sh os ns h5).mono ?_
  rintro e w' ⟨rfl, n, rfl⟩
  exact ⟨rfl, h.later (below_drewN (Below.refl _ W) n)⟩
theorem alive_iw (w W : World) (rb wd : Nat) (ns : List Nrow) (h : RelIW w rb wd ns W) : Calls Tryz.prog 7 #[] W fun e w' => e = .returned (.bool true) ∧ RelIW w rb wd ns w' := by
  refine (alive_any W).mono ?_
  rintro e w' ⟨rfl, b⟩
  exact ⟨rfl, h.later b⟩
end Go.Proofs.YthcljhfankooaabGreat
