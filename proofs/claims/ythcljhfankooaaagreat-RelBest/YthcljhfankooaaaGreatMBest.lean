/- RelRefuses: the walk. What a slice of pairs of numbers that came in gives to a walk. RelBest: the walk. RelBest: the walk of the whole. The statement on RelBest: the note that stays is the best of those that came, in whatever order. No condition. -/
import Derived.Test.YthcljhfankooaaaGreatMAliv
import Derived.Test.YthcljhfankooaaaGreatMFrame
namespace Go.Proofs.YthcljhfankooaaaGreat
open Go.RowKit Go.Shelf

theorem ordE_wide {n : Nat} (h : 8 < n) (l : List Int) : C.ordE (n : Int) l = 1 := if_pos (by omega)
theorem lookE_none (n : Nat) : C.lookE n [] = 0 := rfl

set_option maxRecDepth 100000 in
set_option maxHeartbeats 4000000 in
theorem refs_walk (w : World) (re im : Nat) (hr : W64 re) (hi : W64 im) (tv : Value) (t : List Int) (ht : IntsS (fun b => b < w.heap.size) w tv t) (hB : Bnd t) : Calls Tryz.prog 5 #[.float .f64 re, .float .f64 im, tv] w fun e w' => e = .returned (.bool true) ∧ Below w.heap.size w w' := by
  obtain ⟨ta, tc, etv, _⟩ := id ht
  subst etv
  by_cases hw : t.length ≤ 8
  · have hnew := new_iw w t.length (.slice none 0 0) [] (Ints.nil _ _) hw (lookE_none _)
    have hput := fun W rb h => put_iw w W rb t.length [] h _ t ht hB re im hr hi (.inr (by decide))
    have hhas := fun W rb ns h => has_iw w W rb t.length ns h _ t ht
    have hlen := fun W rb ns h => len_iw w W rb t.length ns h
    have hal := fun W rb ns h => alive_iw w W rb t.length ns h
    have hrh := fun w => rheight_any re im w
    cases c : hgtB re im with
    | false =>
      have E : rputB re im t t.length [] = false ∧ rputE re im t t.length [] = 1 ∧ rputTo re im t t.length [] = [] := ⟨by unfold rputB; simp [c], by unfold rputE; simp [c], by unfold rputTo; simp [c]⟩
      rw [E.1, E.2.1, E.2.2] at hput
      rw [c] at hrh
      generalize hgtN re im re = A at hrh
      generalize hgtN re im im = B at hrh
      clear hhas c E ht hB hr hi hw
      go_enter Tryz.func5, Tryz.ntmps5
      go_wp2_with fail
      refine hnew.mono ?_
      clear hnew
      rintro e w1 ⟨rb, rfl, h1⟩
      have hput := hput w1 rb h1
      clear h1
      go_wp2_with fail
      refine hput.mono ?_
      clear hput
      rintro e w2 ⟨rfl, h2⟩
      go_wp2_with fail
      refine (hrh _).mono ?_
      clear hrh
      rintro e w3 ⟨rfl, hw3⟩
      subst hw3
      have hlen := hlen _ rb _ h2
      clear h2
      go_wp2_with fail
      refine hlen.mono ?_
      clear hlen
      rintro e w4 ⟨rfl, h4⟩
      have hal := hal _ rb _ h4
      clear h4
      go_wp2_with fail
      refine hal.mono ?_
      clear hal
      rintro e w5 ⟨rfl, h5⟩
      have H5 := hide h5.below
      clear h5
      go_wp2_with fail
      go_ret
      exact ⟨rfl, unhide H5⟩
    | true =>
      have E : rputB re im t t.length [] = true ∧ rputE re im t t.length [] = 0 ∧ rputTo re im t t.length [] = [(t, partN re, partN im)] := ⟨by unfold rputB; simp [c, putB, getN], by unfold rputE; simp [c, putE, getN], by unfold rputTo; simp [c, putTo, getN]⟩
      have F : ntcB t t.length [(t, partN re, partN im)] = true := by unfold ntcB; simp [getN]
      rw [E.1, E.2.1, E.2.2] at hput
      rw [c] at hrh
      generalize hgtN re im re = A at hrh
      generalize hgtN re im im = B at hrh
      clear hlen c E ht hB hr hi hw
      go_enter Tryz.func5, Tryz.ntmps5
      go_wp2_with fail
      refine hnew.mono ?_
      clear hnew
      rintro e w1 ⟨rb, rfl, h1⟩
      have hput := hput w1 rb h1
      clear h1
      go_wp2_with fail
      refine hput.mono ?_
      clear hput
      rintro e w2 ⟨rfl, h2⟩
      go_wp2_with fail
      refine (hrh _).mono ?_
      clear hrh
      rintro e w3 ⟨rfl, hw3⟩
      subst hw3
      have hhas := hhas _ rb [(t, partN re, partN im)] h2
      rw [F] at hhas
      clear h2 F
      go_wp2_with fail
      refine hhas.mono ?_
      clear hhas
      rintro e w4 ⟨rfl, h4⟩
      have hal := hal _ rb _ h4
      clear h4
      go_wp2_with fail
      refine hal.mono ?_
      clear hal
      rintro e w5 ⟨rfl, h5⟩
      have H5 := hide h5.below
      clear h5
      go_wp2_with fail
      go_ret
      exact ⟨rfl, unhide H5⟩
  · have hw : 8 < t.length := by omega
    have hno := relnew_no w (t.length : Int) (.slice none 0 0) [] (Ints.nil _ _) (by rw [ordE_wide hw]; decide)
    rw [ordE_wide hw] at hno
    have hg : (8 : Int) < (t.length : Int) := by omega
    have hal := fun W => alive_any W
    clear ht hB hr hi hw
    go_enter Tryz.func5, Tryz.ntmps5
    go_wp2_with fail
    refine hno.mono ?_
    clear hno
    rintro e w1 ⟨rfl, hw1⟩
    subst hw1
    go_wp2_with fail
    refine (hal _).mono ?_
    clear hal
    rintro e w5 ⟨rfl, h5⟩
    have H5 := hide h5
    clear h5
    go_wp2_with fail
    go_ret
    exact ⟨rfl, unhide H5⟩
end Go.Proofs.YthcljhfankooaaaGreat

namespace Go.Proofs.YthcljhfankooaaaGreat
open Go.ChangeShapes Go.WideShapes Go.ChangeAt Go.RowKit

theorem cellsPr : Tryz.prog.cellsOf 22 = 2 := by kernel_rfl

set_option maxRecDepth 100000 in
/-- One pair. -/
theorem pair_of {H : Type} {enc : TypeId × Value → H} {W : World} {fuel : Nat} {cs : List Value} {x : DataW H × List MemPlace} (h : DataW.trod enc Tryz.prog W 0 (fun _ => true) true fuel 22 cs = some x) : ∃ (a b : Int), cs = [.int .i64 a, .int .i64 b] := by
  obtain ⟨xs, m, _, hx, hl, hlen, hk⟩ := DataW.trod_array Tryz.underlying22 h
  rw [cellsPr] at hl
  rw [cells3] at hk
  match cs, hl, xs, hlen with
  | [u, v], _, [y0, y1], _ =>
    have h0 := hk 0 (by omega)
    have h1 := hk 1 (by omega)
    simp at h0 h1
    obtain ⟨a, e0, _, _⟩ := DataW.trod_int Tryz.underlying3 h0
    obtain ⟨b, e1, _, _⟩ := DataW.trod_int Tryz.underlying3 h1
    injection e0 with e0 _
    injection e1 with e1 _
    subst e0 e1
    exact ⟨a, b, rfl⟩

/-- The j-th pair lies where it lay. -/
def PairsIn (W : World) (a : Option Addr) (n : Nat) (f : Nat → Int × Int) : Prop := ∀ j, j < n → ∃ b off, a = some ⟨b, off, none⟩ ∧ b < W.heap.size ∧
  W.cell? ⟨b, off + j * 2, none⟩ = some (.int .i64 (f j).1) ∧ W.cell? ⟨b, off + j * 2 + 1, none⟩ = some (.int .i64 (f j).2)

set_option maxRecDepth 100000 in
theorem pairs_of {H : Type} {enc : TypeId × Value → H} {W : World} {v : Value} {d : DataW H} {p : List MemPlace} (h : DataW.Trod enc Tryz.prog W 0 (fun _ => true) true 74 v d p) (h1 : v.cells.toList = [v]) :
    ∃ a n cap f, v = .slice a n cap ∧ n ≤ cap ∧ cap ≤ 9223372036854775807 ∧ PairsIn W a n f := by
  obtain ⟨fuel, hf⟩ := h
  rw [h1] at hf
  rcases DataW.trod_slice Tryz.underlying74 hf with ⟨e, _⟩ | ⟨a, len, cap, elems, rest, n, _, e, ex, hb, hl, hm, hlen, hel, hsp, hns⟩
  · injection e with e _
    exact ⟨none, 0, 0, fun _ => (0, 0), e, Nat.le_refl _, by omega, fun j hj => by omega⟩
  · injection e with e _
    subst e
    obtain ⟨rfl, rfl⟩ := Prod.mk.inj ex
    rw [cellsPr] at hel
    have each : ∀ i, ∃ q : Int × Int, i < len → W.cells? 0 (a.add (i * 2)) 2 = some [.int .i64 q.1, .int .i64 q.2] := fun i => by
      by_cases hi : i < len
      · have hi2 : i < elems.length := by omega
        have g1 := hel i hi
        rw [List.getElem?_eq_getElem hi2] at g1
        obtain ⟨cs, g2, g3⟩ := Option.bind_eq_some_iff.1 g1
        obtain ⟨x, y, rfl⟩ := pair_of g3
        exact ⟨(x, y), fun _ => g2⟩
      · exact ⟨(0, 0), fun h => absurd h hi⟩
    obtain ⟨f, hfq⟩ := Classical.axiomOfChoice each
    refine ⟨some a, len, cap, f, rfl, hl, by unfold maxLen at hm; omega, fun j hj => ?_⟩
    obtain ⟨b, off, spot⟩ := a
    have one : ∀ j, j < len → ∀ i, i < 2 → W.cell? ((⟨b, off, spot⟩ : Addr).add (j * 2) |>.add i) = [Value.int .i64 (f j).1, .int .i64 (f j).2][i]? := fun j hj i hi => (World.cells?_some (hfq j hj)).2.2 i hi
    have hspot : spot = none := by
      have h0 := one 0 (by omega) 0 (by omega)
      have h0' : W.cell? ⟨b, off, spot⟩ = some (.int .i64 (f 0).1) := by simpa [Addr.add] using h0
      simpa using World.cell?_spot h0'
    subst hspot
    have e1 : ∀ i, (⟨b, off, none⟩ : Addr).add i = ⟨b, off + i, none⟩ := fun i => by cases i <;> simp [Addr.add]
    have e2 : ∀ o i, (⟨b, o, none⟩ : Addr).add i = ⟨b, o + i, none⟩ := fun o i => by cases i <;> simp [Addr.add]
    have g0 := one j hj 0 (by omega)
    have g1 := one j hj 1 (by omega)
    rw [e1, e2] at g0 g1
    obtain ⟨_, hz, _⟩ := cells_of_cell g0
    exact ⟨b, off, rfl, lt_heap hz, g0, g1⟩
end Go.Proofs.YthcljhfankooaaaGreat

namespace Go.Proofs.YthcljhfankooaaaGreat
open Go.RowKit Go.Shelf

set_option maxRecDepth 100000 in
set_option maxHeartbeats 4000000 in
theorem lnote_any (a k : Int) (ha : inN a = true) (hk : inN k = true) (w : World) : Calls Tryz.prog 23 #[.int .i64 a, .int .i64 k] w fun e w' => e = .returned (noteV a k) ∧ w' = w := by
  have h := note_any a k w
  have E : ntV a k = noteV a k := by unfold ntV; rw [ha, hk]; rfl
  rw [E] at h
  have HE : Hid (noteV a k = .complex .f64 (floatOfInt .f64 a) (floatOfInt .f64 k)) := rfl
  have h : Calls Tryz.prog 18 #[.int .i64 a, .int .i64 k] w fun e w' => e = .returned (.tuple #[.complex .f64 (floatOfInt .f64 a) (floatOfInt .f64 k), .int .i64 (ntE a k)]) ∧ w' = w := h
  generalize ntE a k = n at h
  clear ha hk E
  go_enter Tryz.func23, Tryz.ntmps23
  go_wp2_with fail
  refine h.mono ?_
  clear h
  rintro e w' ⟨rfl, hw'⟩
  subst hw'
  go_wp2_with fail
  go_ret
  exact ⟨by rw [unhide HE]; rfl, rfl⟩

/-- Put, with what was made meanwhile. -/
theorem put_iw2 (w wr W : World) (rb wd : Nat) (ns : List Nrow) (h : RelIW w rb wd ns wr) (hbW : Below wr.heap.size wr W) (tv : Value) (t : List Int) (ht : IntsS (fun b => b < w.heap.size) w tv t) (hB : Bnd t) (x y : Nat) (hx : W64 x) (hy : W64 y) (hroom : (getN t ns).isSome = true ∨ ns.length < 1024) :
    Calls Tryz.prog 21 #[.pointer (some ⟨rb, 0, none⟩), .complex .f64 x y, tv] W fun e w' => e = .returned (.tuple #[.bool (rputB x y t wd ns), .int .i64 (rputE x y t wd ns)]) ∧ RelIW w rb wd (rputTo x y t wd ns) w' ∧ ∀ q o, wr.heap.size ≤ q → W.heap[q]? = some o → w'.heap[q]? = some o := by
  obtain ⟨hb, mb, sh, os, g5, h6, g7⟩ := h
  have h5 := g5.later hbW
  have h7 := g7.trans (hbW.mono g7.size)
  refine (rput_any _ rb hb mb wd sh os ns h5 t tv ((ht.later h7).mono (fun b _ hlt hn => by have := h6 b hn; omega)) hB x y hx hy hroom).mono ?_
  rintro e w' ⟨rfl, r1, r2⟩
  exact ⟨rfl, ⟨hb, mb, sh, os, r1, h6, h7.trans (r2.below h7.size (fun q hq => h6 q hq))⟩, fun q o hq ho => r2.same q o ho (fun hn => by have := g5.held.lt q hn; omega)⟩

/-- The better one of two. -/
def lessB (a b h k : Int) : Bool := decide (a < h) || (decide (a = h) && decide (b < k))
def stepH (a b h k : Int) : Int := if lessB a b h k = true then a else h
def stepK (a b h k : Int) : Int := if lessB a b h k = true then b else k
theorem less_bet (a b h k : Int) : betB a b h k = lessB a b h k := by
  unfold betB lessB
  by_cases e : a = h
  · rw [if_pos e, decide_eq_true e, (decide_eq_false (by omega) : decide (a < h) = false)]; simp
  · rw [if_neg e, decide_eq_false e]; simp
/-- How far the relation is. -/
def BestN (t : List Int) (i : Nat) (h k : Int) (ns : List Nrow) : Prop := (i = 0 ∧ ns = [] ∧ h = 1125899906842624 ∧ k = 1125899906842624) ∨ (0 < i ∧ ns = [(t, h, k)] ∧ inN h = true ∧ inN k = true)
theorem BestN.room {t : List Int} {i : Nat} {h k : Int} {ns : List Nrow} (H : BestN t i h k ns) : (getN t ns).isSome = true ∨ ns.length < 1024 := by
  rcases H with ⟨_, rfl, _⟩ | ⟨_, rfl, _⟩
  · exact .inr (by decide)
  · exact .inr (by simp)
theorem BestN.step {t : List Int} {i : Nat} {h k : Int} {ns : List Nrow} (H : BestN t i h k ns) {a b : Int} (ha : inN a = true) (hb : inN b = true) :
    BestN t (i + 1) (stepH a b h k) (stepK a b h k) (rputTo (floatOfInt .f64 a) (floatOfInt .f64 b) t t.length ns) := by
  obtain ⟨p1, p2⟩ := partB_int (inN_abs ha)
  obtain ⟨q1, q2⟩ := partB_int (inN_abs hb)
  have hB : hgtB (floatOfInt .f64 a) (floatOfInt .f64 b) = true := by unfold hgtB; rw [p1, q1]; rfl
  have e : rputTo (floatOfInt .f64 a) (floatOfInt .f64 b) t t.length ns = putTo t a b ns := by
    unfold rputTo
    rw [if_pos ⟨rfl, hB⟩, p2, q2]
  rw [e]
  refine .inr ⟨by omega, ?_⟩
  rcases H with ⟨_, rfl, rfl, rfl⟩ | ⟨_, rfl, hh, hk⟩
  · have e2 : putTo t a b [] = [(t, a, b)] := by simp [putTo, getN]
    rw [e2]
    have hs : stepH a b 1125899906842624 1125899906842624 = a ∧ stepK a b 1125899906842624 1125899906842624 = b := by
      simp only [inN, Bool.and_eq_true, decide_eq_true_eq] at ha hb
      unfold stepH stepK lessB
      by_cases c : a < 1125899906842624
      · simp [c]
      · have : a = 1125899906842624 := by omega
        subst this
        by_cases c2 : b < 1125899906842624
        · simp [c2]
        · have : b = 1125899906842624 := by omega
          subst this
          simp
    rw [hs.1, hs.2]
    exact ⟨rfl, ha, hb⟩
  · have e2 : putTo t a b [(t, h, k)] = [(t, stepH a b h k, stepK a b h k)] := by
      have e3 : getN t [(t, h, k)] = some (h, k) := by simp [getN]
      unfold putTo
      rw [e3]
      simp only [less_bet]
      unfold stepH stepK
      cases lessB a b h k <;> simp [setN]
    rw [e2]
    refine ⟨rfl, ?_, ?_⟩
    · unfold stepH; split <;> assumption
    · unfold stepK; split <;> assumption

/-- The loop. -/
def BestR (w : World) (rb : Nat) (t : List Int) (n : Nat) (i h k : Value) (wr : World) : Prop := ∃ j hh kk ns, j ≤ n ∧ i = .int .i64 ((j : Nat) : Int) ∧ h = .int .i64 hh ∧ k = .int .i64 kk ∧ BestN t j hh kk ns ∧ RelIW w rb t.length ns wr
end Go.Proofs.YthcljhfankooaaaGreat

namespace Go.Proofs.YthcljhfankooaaaGreat
open Go.RowKit Go.Shelf

set_option maxRecDepth 100000 in
set_option maxHeartbeats 4000000 in
theorem best_walk (w : World) (tv : Value) (t : List Int) (ht : IntsS (fun b => b < w.heap.size) w tv t) (hB : Bnd t) (a : Option Addr) (n cap : Nat) (f : Nat → Int × Int) (hc1 : n ≤ cap) (hc2 : cap ≤ 9223372036854775807) (hA : PairsIn w a n f) : Calls Tryz.prog 8 #[tv, .slice a n cap] w fun e w' => e = .returned (.bool true) ∧ Below w.heap.size w w' := by
  obtain ⟨ta, tc, etv, _⟩ := id ht
  subst etv
  have hn : n ≤ 9223372036854775807 := by omega
  have halb := fun W => alive_any W
  by_cases hw : t.length ≤ 8
  · have hnew := new_iw w t.length (.slice none 0 0) [] (Ints.nil _ _) hw (lookE_none _)
    have hal := fun W rb ns h => alive_iw w W rb t.length ns h
    by_cases hn0 : n = 0
    · subst hn0
      clear ht hB hA hw hal
      go_enter Tryz.func8, Tryz.ntmps8
      go_wp2_with fail
      refine hnew.mono ?_
      clear hnew
      rintro e w1 ⟨rb, rfl, h1⟩
      have H1 := hide h1.below
      clear h1
      go_wp2_with fail
      refine (halb _).mono ?_
      clear halb
      rintro e w2 ⟨rfl, h2⟩
      have H2 := hide ((unhide H1).trans (h2.mono (unhide H1).size))
      clear h2
      go_wp2_with fail
      go_ret
      exact ⟨rfl, unhide H2⟩
    · have hn0' : ((n : Int) == 0) = false := by simpa using hn0
      have HPUT : Hid (∀ wr W rb ns x y, RelIW w rb t.length ns wr → Below wr.heap.size wr W → (getN t ns).isSome = true ∨ ns.length < 1024 → Calls Tryz.prog 21 #[.pointer (some ⟨rb, 0, none⟩), .complex .f64 (floatOfInt .f64 x) (floatOfInt .f64 y), .slice ta t.length tc] W fun e w' => e = .returned (.tuple #[.bool (rputB (floatOfInt .f64 x) (floatOfInt .f64 y) t t.length ns), .int .i64 (rputE (floatOfInt .f64 x) (floatOfInt .f64 y) t t.length ns)]) ∧ RelIW w rb t.length (rputTo (floatOfInt .f64 x) (floatOfInt .f64 y) t t.length ns) w' ∧ ∀ q o, wr.heap.size ≤ q → W.heap[q]? = some o → w'.heap[q]? = some o) :=
        fun wr W rb ns x y h hbW hr => put_iw2 w wr W rb t.length ns h hbW _ t ht hB _ _ (w64_int x) (w64_int y) hr
      have HNOTE : Hid (∀ W rb hh kk, inN hh = true → inN kk = true → RelIW w rb t.length [(t, hh, kk)] W → Calls Tryz.prog 27 #[.pointer (some ⟨rb, 0, none⟩), .slice ta t.length tc] W fun e w' => e = .returned (.tuple #[.complex .f64 (floatOfInt .f64 hh) (floatOfInt .f64 kk), .bool true]) ∧ RelIW w rb t.length [(t, hh, kk)] w') := fun W rb hh kk _ _ h => by
        refine (note_iw w W rb t.length _ h _ t ht).mono ?_
        rintro e w' ⟨rfl, r⟩
        have e1 : ntcV t t.length [(t, hh, kk)] = noteV hh kk := by unfold ntcV; simp [getN]
        have e2 : ntcB t t.length [(t, hh, kk)] = true := by unfold ntcB; simp [getN]
        rw [e1, e2]
        exact ⟨rfl, r⟩
      have HA := hide hA
      clear ht hB hw hn0 halb hA
      go_enter Tryz.func8, Tryz.ntmps8
      go_wp2_with fail
      refine hnew.mono ?_
      clear hnew
      rintro e w1 ⟨rb, rfl, h1⟩
      have hal1 := hal w1 rb _ h1
      clear h1 hal
      go_wp2_with fail
      refine hal1.mono ?_
      clear hal1
      rintro e w2 ⟨rfl, h2⟩
      have HS : Hid (BestR w rb t n (.int .i64 0) (.int .i64 1125899906842624) (.int .i64 1125899906842624) w2) := ⟨0, _, _, [], Nat.zero_le _, rfl, rfl, rfl, .inl ⟨rfl, rfl, rfl, rfl⟩, h2⟩
      clear h2
      go_wp2_with fail
      go_loopw [7, 8, 38] (fun h k i wr => BestR w rb t n i h k wr) (fun _ _ i _ => n - (intOf i).toNat)
      case atStart => exact unhide HS
      case round =>
        obtain ⟨j, hh, kk, ns, hj, rfl, rfl, rfl, hN, hI⟩ := hrel
        by_cases hlt : j < n
        · obtain ⟨b, off, rfl, hbl, g0, g1⟩ := unhide HA j hlt
          have c0 := (hI.below.cell (p := ⟨b, off + j * 2, none⟩) hbl).trans g0
          have c1 := (hI.below.cell (p := ⟨b, off + j * 2 + 1, none⟩) hbl).trans g1
          generalize (f j).1 = x at c0
          generalize (f j).2 = y at c1
          obtain ⟨w3, hw3⟩ : ∃ w3, w3 = wr.alloc (.cells #[.int .i64 x, .int .i64 y] 22) := ⟨_, rfl⟩
          have b3 : Below wr.heap.size wr w3 := by rw [hw3]; exact allocB wr _
          have hI3 := hI.later b3
          have q3 : w3.heap[wr.heap.size]? = some (.cells #[.int .i64 x, .int .i64 y] 22 (0, 0)) := by rw [hw3]; exact World.alloc_heap_new wr _
          have d0 : w3.cell? ⟨wr.heap.size, 0, none⟩ = some (.int .i64 x) := by rw [cell_at q3]; rfl
          have d1 : w3.cell? ⟨wr.heap.size, 1, none⟩ = some (.int .i64 y) := by rw [cell_at q3]; rfl
          have hnt := note_any x y w3
          have hg : (j : Int) < (n : Int) := by omega
          obtain ⟨bx, hbx⟩ : ∃ bx, bx = wr.heap.size := ⟨_, rfl⟩
          rw [← hbx] at d0 d1 q3
          have HQ3 := hide q3
          cases hok : (inN x && inN y) with
          | false =>
            have E : ntV x y = .complex .f64 0 0 ∧ ntE x y = 1 := by unfold ntV ntE; rw [hok]; exact ⟨rfl, rfl⟩
            rw [E.1, E.2] at hnt
            have HB3 := hide hI3.below
            have HBX := hide hbx
            clear E hok hI hI3 hN b3 g0 g1 q3 hbx
            go_wp2_with fail
            rw [← unhide HBX, ← hw3]
            clear hw3
            go_wp2_with fail
            refine hnt.mono ?_
            clear hnt
            rintro e w4 ⟨rfl, hw4⟩
            subst hw4
            go_wp2_with fail
            go_ret
            exact ⟨rfl, unhide HB3⟩
          | true =>
            rw [Bool.and_eq_true] at hok
            have E : ntV x y = .complex .f64 (floatOfInt .f64 x) (floatOfInt .f64 y) ∧ ntE x y = 0 := by unfold ntV ntE; rw [hok.1, hok.2]; exact ⟨rfl, rfl⟩
            rw [E.1, E.2] at hnt
            have hln : Calls Tryz.prog 23 #[.int .i64 x, .int .i64 y] w3 fun e w' => e = .returned (.complex .f64 (floatOfInt .f64 x) (floatOfInt .f64 y)) ∧ w' = w3 := lnote_any x y hok.1 hok.2 w3
            have hput := unhide HPUT wr w3 rb ns x y hI b3 hN.room
            have HN := hide (hN.step hok.1 hok.2)
            have HBX := hide hbx
            clear E hok hI hI3 hN b3 g0 g1 q3 hbx
            go_wp2_with fail
            rw [← unhide HBX, ← hw3]
            clear hw3
            go_wp2_with fail
            refine hnt.mono ?_
            clear hnt
            rintro e w4 ⟨rfl, hw4⟩
            subst hw4
            go_wp2_with fail
            refine hln.mono ?_
            clear hln
            rintro e w4 ⟨rfl, hw4⟩
            subst hw4
            go_wp2_with fail
            refine hput.mono ?_
            clear hput
            rintro e w5 ⟨rfl, hI5, hk5⟩
            have q5 := hk5 bx _ (Nat.le_of_eq (unhide HBX).symm) (unhide HQ3)
            have d0 : w5.cell? ⟨bx, 0, none⟩ = some (.int .i64 x) := by rw [cell_at q5]; rfl
            have d1 : w5.cell? ⟨bx, 1, none⟩ = some (.int .i64 y) := by rw [cell_at q5]; rfl
            have HI5 := hide hI5
            clear hI5 hk5 q5
            by_cases l1 : x < hh
            · have hl : lessB x y hh kk = true := by unfold lessB; rw [decide_eq_true l1]; rfl
              have HN2 : Hid (BestN t (j + 1) x y (rputTo (floatOfInt .f64 x) (floatOfInt .f64 y) t t.length ns)) := by
                have := unhide HN
                unfold stepH stepK at this
                rw [hl, if_pos rfl, if_pos rfl] at this
                exact this
              clear hl
              go_wp2_with fail
              go_quiet (fail)
              go_wp2_with fail
              go_roundw
              case rel => exact ⟨j + 1, _, _, _, by omega, by go_num, rfl, rfl, unhide HN2, (unhide HI5).later (below_drewN (Below.refl _ w5) _)⟩
              case measure => simp [intOf]; omega
            · by_cases l2 : x = hh
              · by_cases l3 : y < kk
                · have hl : lessB x y hh kk = true := by unfold lessB; rw [decide_eq_true l2, decide_eq_true l3, Bool.true_and, Bool.or_true]
                  have HN2 : Hid (BestN t (j + 1) hh y (rputTo (floatOfInt .f64 x) (floatOfInt .f64 y) t t.length ns)) := by
                    have := unhide HN
                    unfold stepH stepK at this
                    rw [hl, if_pos rfl, if_pos rfl] at this
                    rw [← l2]
                    exact this
                  clear hl
                  go_wp2_with fail
                  go_quiet (fail)
                  go_wp2_with fail
                  go_roundw
                  case rel => exact ⟨j + 1, _, _, _, by omega, by go_num, rfl, rfl, unhide HN2, (unhide HI5).later (below_drewN (Below.refl _ w5) _)⟩
                  case measure => simp [intOf]; omega
                · have hl : ¬ lessB x y hh kk = true := by unfold lessB; rw [decide_eq_false l1, decide_eq_false l3, Bool.and_false]; decide
                  have HN2 : Hid (BestN t (j + 1) hh kk (rputTo (floatOfInt .f64 x) (floatOfInt .f64 y) t t.length ns)) := by
                    have := unhide HN
                    unfold stepH stepK at this
                    rw [if_neg hl, if_neg hl] at this
                    exact this
                  clear hl
                  go_wp2_with fail
                  go_roundw
                  case rel => exact ⟨j + 1, _, _, _, by omega, by go_num, rfl, rfl, unhide HN2, unhide HI5⟩
                  case measure => simp [intOf]; omega
              · have hl : ¬ lessB x y hh kk = true := by unfold lessB; rw [decide_eq_false l1, decide_eq_false l2]; simp
                have HN2 : Hid (BestN t (j + 1) hh kk (rputTo (floatOfInt .f64 x) (floatOfInt .f64 y) t t.length ns)) := by
                  have := unhide HN
                  unfold stepH stepK at this
                  rw [if_neg hl, if_neg hl] at this
                  exact this
                clear hl
                go_wp2_with fail
                go_roundw
                case rel => exact ⟨j + 1, _, _, _, by omega, by go_num, rfl, rfl, unhide HN2, unhide HI5⟩
                case measure => simp [intOf]; omega
        · have ej : j = n := by omega
          rcases hN with ⟨e0, _⟩ | ⟨_, rfl, ihh, ikk⟩
          · exact absurd hn0' (by rw [← ej, e0]; decide)
          · have hg : ¬ ((j : Int) < (n : Int)) := by omega
            have hnt := unhide HNOTE wr rb hh kk ihh ikk hI
            have hmd : ∀ W, Calls Tryz.prog 16 #[.complex .f64 (floatOfInt .f64 hh) (floatOfInt .f64 kk)] W fun e w' => e = .returned (.tuple #[.int .i64 hh, .int .i64 kk, .bool true]) ∧ ∃ n, w' = W.drewN n := fun W => height_made hh kk ihh ikk W
            clear hI ihh ikk ej
            go_wp2_with fail
            refine hnt.mono ?_
            clear hnt
            rintro e w4 ⟨rfl, h4⟩
            have HI4 := hide h4
            clear h4
            go_wp2_with fail
            refine (hmd _).mono ?_
            clear hmd
            rintro e w5 ⟨rfl, m, hw5⟩
            have hln := len_iw w w5 rb t.length _ ((unhide HI4).later (by rw [hw5]; exact below_drewN (Below.refl _ w4) m))
            clear hw5
            go_wp2_with fail
            refine hln.mono ?_
            clear hln
            rintro e w6 ⟨rfl, h6⟩
            have H6 := hide h6.below
            clear h6
            go_wp2_with fail
            go_ret
            exact ⟨rfl, unhide H6⟩
  · have hw : 8 < t.length := by omega
    have hno := relnew_no w (t.length : Int) (.slice none 0 0) [] (Ints.nil _ _) (by rw [ordE_wide hw]; decide)
    rw [ordE_wide hw] at hno
    clear ht hB hA hw
    go_enter Tryz.func8, Tryz.ntmps8
    go_wp2_with fail
    refine hno.mono ?_
    clear hno
    rintro e w1 ⟨rfl, hw1⟩
    subst hw1
    go_wp2_with fail
    refine (halb _).mono ?_
    clear halb
    rintro e w5 ⟨rfl, h5⟩
    have H5 := hide h5
    clear h5
    go_wp2_with fail
    go_ret
    exact ⟨rfl, unhide H5⟩
end Go.Proofs.YthcljhfankooaaaGreat

namespace Go.Proofs.YthcljhfankooaaaGreat
open Go.ChangeShapes Go.WideShapes Go.ChangeAt Go.RowKit

set_option maxRecDepth 100000 in
theorem relBest_lifted (os : Os) (started : os.Started) (H : Type) (enc : TypeId × Value → H) :
    ReturnsInHanded {} Tryz.checked os 8 .any (Rows.relBestSpec.pre6 enc Tryz.prog Tryz.f8 Rows.relBestRow.domain false) (Rows.relBestSpec.post enc Tryz.prog Tryz.f8 false true false false) := by
  refine returnsInHanded_of_change_sized (C := Tryz.checked) own started (by kernel_rfl) Tryz.func8
    (ChangeSpec.witness6 (enc := enc) (C := Tryz.checked) false ⟨#[], #[.slice none 0 0, .slice none 0 0], []⟩ 8 (by kernel_rfl) (by kernel_rfl) (by kernel_rfl) (by kernel_rfl)) ?_
  intro W base args ds gs before hval0 hW _ hsz0 _
  have hsz : (DataW.weightsEach Tryz.prog (Tryz.f8.params.toList ++ Rows.relBestSpec.plain.varTypes Tryz.prog) (ds ++ gs)).all (· ≤ reachBytes) = true := hsz0
  clear hsz0
  have hval : ∀ (j : Nat) t v, Tryz.f8.params[j]? = some t → args[j]? = some v → Value.okWide Tryz.prog W .any base t v := hval0
  have hW' := hW
  obtain ⟨p, q, hA0, hV, rfl, _, _⟩ := hW
  have hA : DataW.TrodAll enc Tryz.prog W 0 (fun _ => true) true Tryz.f8.params.toList args.toList ds p := hA0
  rw [Tryz.params8] at hA hval hsz
  obtain ⟨v0, v1, d0, d1, p0, p1, rfl, rfl, rfl, h0, h1⟩ := trodAll_two hA
  obtain ⟨rfl, rfl⟩ := trodVars_none hV
  obtain ⟨a0, len0, cap0, rfl⟩ := okWide_slice Tryz.underlying23 (hval 0 23 v0 rfl rfl)
  obtain ⟨a1', len1, cap1, rfl⟩ := okWide_slice Tryz.underlying74 (hval 1 74 v1 rfl rfl)
  clear hA0 hval0
  simp only [List.append_nil] at hW'
  have lt0 : ∀ x ∈ p0, x.block < W.heap.size := fun x hx => hW'.lt x (by simp [hx])
  have lt1 : ∀ x ∈ p1, x.block < W.heap.size := fun x hx => hW'.lt x (by simp [hx])
  obtain ⟨l0, hl0, hB0, hz0⟩ := slice_of h0 rfl lt0
  obtain ⟨a1, m1, c1, f1, e1, hc1, hc2, hP1⟩ := pairs_of h1 rfl
  obtain ⟨rfl, rfl, rfl⟩ := Value.slice.inj e1
  clear hz0
  refine (best_walk W _ l0 hl0 hB0 _ _ _ f1 hc1 hc2 hP1).mono fun e W' ⟨he, hg⟩ => ?_
  subst he
  refine ⟨_, rfl, _, _, _, [], p0 ++ p1, [], hW', ?_, ?_, rfl, hg.frame _, fun h => by cases h⟩
  · exact trodAll_mk1 (shut_bool Tryz.underlying4 _)
  · have := trodAll_mk2 (Below.trod laidOut (by kernel_rfl) (of_decide_eq_true (by kernel_rfl)) h0 hg lt0) (Below.trod laidOut (by kernel_rfl) (of_decide_eq_true (by kernel_rfl)) h1 hg lt1)
    exact this

theorem relBest_holds : Rows.RelBestSaid :=
  OpenClaim.holds_of_wide 8 Tryz.f8 rfl rfl rfl rfl rfl rfl rfl ⟨rfl, rfl, rfl, rfl, rfl⟩ rfl rfl rfl rfl rfl (by kernel_rfl) Tryz.func8 (by kernel_rfl)
    (of_decide_eq_true (by kernel_rfl)) (by unfold Func.isWrapper; first | (rw [if_pos (by decide +kernel)]; kernel_rfl) | (rw [if_neg (by decide +kernel)]; exact ⟨rfl, rfl⟩))
    (fun os started H enc _ => relBest_lifted os started H enc)
#print axioms relBest_holds
end Go.Proofs.YthcljhfankooaaaGreat
