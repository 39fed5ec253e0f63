/- BtreePlays: the walk. BtreePlays: the sets, a call in its box, and its tuple. -/
import Derived.Test.YtmjlhmhkbfnccaaPAC
import Derived.Test.YtmjlhmhkbfnccaaFrEF
import Derived.Test.YtmjlhmhkbfnccaaAlive
namespace Go.Proofs.Ytmjlhmhkbfnccaa
open Go.RowKit Go.Shelf Go.Maps

/-- What a call keeps. -/
def DoesOk (W : World) : Prop := ∀ (S : Nat → Prop) (w : World) (tb s h s' h' : Nat) (cs : Array Value) (o o' : List Int) (A A' : List (List Int)) (kind on k : Int) (tv : Value) (x : List Int), Pl S W w tb s h s' h' 0 2 1 4 cs o o' A A' → Ints W.heap.size w tv x → Bnd x → x.length * 8 ≤ 140737488355328 →
  Calls Try.prog 11 #[.pointer (some ⟨tb, 0, none⟩), .agg #[.int .i64 kind, .int .i64 on, .int .i64 k, tv]] w fun e w' => e = .returned (.bool true) ∧ ∃ cs' o2 o2' A2 A2', Pl S W w' tb s h s' h' 0 2 1 4 cs' o2 o2' A2 A2'
def StandsOk (W : World) : Prop := ∀ (S : Nat → Prop) (w : World) (tb s h s' h' : Nat) (cs : Array Value) (o o' : List Int) (A A' : List (List Int)), Pl S W w tb s h s' h' 0 2 1 4 cs o o' A A' →
  Calls Try.prog 12 #[.pointer (some ⟨tb, 0, none⟩)] w fun e w' => e = .returned (.bool true) ∧ Below w.heap.size w w'
def PlR (S : Nat → Prop) (W : World) (tb s h s' h' n : Nat) (i : Value) (wr : World) : Prop := ∃ (k : Nat) (cs : Array Value) (o o' : List Int) (A A' : List (List Int)), k ≤ n ∧ i = .int .i64 (k : Int) ∧ Pl S W wr tb s h s' h' 0 2 1 4 cs o o' A A'

set_option maxRecDepth 100000 in
set_option maxHeartbeats 8000000 in
theorem plays_walk (W : World) (ov ov' : Value) (o o' : List Int) (a : Option Addr) (n cap : Nat) (f : Nat → Int × Int × Int × Value × List Int) (ho : Ints W.heap.size W ov o) (ho' : Ints W.heap.size W ov' o') (hc1 : n ≤ cap) (hc2 : cap ≤ 9223372036854775807) (hA : ActsIn W a n f) (hD : DoesOk W) (hS : StandsOk W) :
    Calls Try.prog 3 #[ov, ov', .slice a n cap] W fun e W' => e = .returned (.bool true) ∧ Below W.heap.size W W' := by
  have hbg := begun_any W ov ov' o o' ho ho'
  obtain ⟨oa, oc, rfl, _⟩ := id ho
  obtain ⟨oa', oc', rfl, _⟩ := id ho'
  have HA := hide hA
  have HD := hide (And.intro hD hS)
  clear ho ho' hA hD hS
  go_enter Try.func3, Try.ntmps3
  go_wp2_with fail
  refine hbg.mono ?_
  clear hbg
  rintro e w1 (⟨rfl, b1⟩ | ⟨tb, s, h, s', h', cs, S, rfl, hP⟩)
  · have hal := alive_any w1
    have HB1 := hide b1
    clear b1
    go_wp2_with fail
    refine hal.mono ?_
    clear hal
    rintro e w2 ⟨rfl, b2⟩
    have HB2 := hide ((unhide HB1).trans (b2.mono (unhide HB1).size))
    clear b2
    go_wp2_with fail
    go_ret
    exact ⟨rfl, unhide HB2⟩
  · have hal := alive_any w1
    have HP1 := hide hP
    clear hP
    go_wp2_with fail
    refine hal.mono ?_
    clear hal
    rintro e w2 ⟨rfl, b2⟩
    have H0 : Hid (PlR S W tb s h s' h' n (.int .i64 0) w2) := ⟨0, cs, o, o', [], [], Nat.zero_le _, rfl, (unhide HP1).later b2⟩
    clear b2
    go_wp2_with fail
    go_loopw [27] (fun i wr => PlR S W tb s h s' h' n i wr) (fun i _ => n - (intOf i).toNat)
    case atStart => exact unhide H0
    case round =>
      obtain ⟨k, cs2, o2, o2', A, A', hk, rfl, hP⟩ := hrel
      by_cases hlt : k < n
      · obtain ⟨b, off, rfl, hbl, g0, g1, g2, g3, hi, hB, hx8⟩ := unhide HA k hlt
        have c0 := (hP.bel.cell (p := ⟨b, off + k * 4, none⟩) hbl).trans g0
        have c1 := (hP.bel.cell (p := ⟨b, off + k * 4 + 1, none⟩) hbl).trans g1
        have c2 := (hP.bel.cell (p := ⟨b, off + k * 4 + 2, none⟩) hbl).trans g2
        have c3 := (hP.bel.cell (p := ⟨b, off + k * 4 + 3, none⟩) hbl).trans g3
        have hix : Ints W.heap.size wr (f k).2.2.2.1 (f k).2.2.2.2 := hi.ints.below hP.bel (Nat.le_refl _)
        generalize (f k).2.2.2.2 = x at hix hB hx8
        generalize (f k).2.2.2.1 = tv at hix c3
        generalize (f k).2.2.1 = kk at c2
        generalize (f k).2.1 = on at c1
        generalize (f k).1 = kd at c0
        obtain ⟨xa, xc, rfl, _⟩ := id hix
        obtain ⟨w3, hw3⟩ : ∃ w3, w3 = wr.alloc (.cells #[.int .i64 kd, .int .i64 on, .int .i64 kk, .slice xa x.length xc] 29) := ⟨_, rfl⟩
        have b3 : Below wr.heap.size wr w3 := by rw [hw3]; exact (Below.refl _ wr).alloc (Nat.le_refl _) _
        have hd := (unhide HD).1 S w3 tb s h s' h' cs2 o2 o2' A A' kd on kk _ x (hP.later b3) (hix.below (b3.mono hP.bel.size) (Nat.le_refl _)) hB (by omega)
        have hg : (k : Int) < (n : Int) := by omega
        clear hP hix hB hx8 hi g0 g1 g2 g3 b3
        go_wp2_with fail
        rw [← hw3]
        clear hw3
        refine hd.mono ?_
        clear hd
        rintro e w4 ⟨rfl, cs4, o4, o4', A4, A4', hP4⟩
        have HP4 := hide hP4
        clear hP4
        go_wp2_with fail
        go_roundw
        case rel => exact ⟨k + 1, cs4, o4, o4', A4, A4', by omega, by go_num, unhide HP4⟩
        case measure => simp [intOf]; omega
      · have hg : ¬ ((k : Int) < (n : Int)) := by omega
        have hs := (unhide HD).2 S wr tb s h s' h' cs2 o2 o2' A A' hP
        have HP4 := hide hP
        clear hP
        go_wp2_with fail
        refine hs.mono ?_
        clear hs
        rintro e w5 ⟨rfl, b5⟩
        have HB5 := hide ((unhide HP4).bel.trans (b5.mono (unhide HP4).bel.size))
        clear b5
        go_wp2_with fail
        go_ret
        exact ⟨rfl, unhide HB5⟩
end Go.Proofs.Ytmjlhmhkbfnccaa

namespace Go.Proofs.Ytmjlhmhkbfnccaa
open Go.RowKit Go.Shelf Go.Maps

/-- The sets, the call in its box, and its tuple. -/
structure Dq (S : Nat → Prop) (W w : World) (tb s h s' h' i d j d' : Nat) (cs : Array Value) (o o' : List Int) (A A' : List (List Int)) (bx : Nat) (kind on k : Int) (tv : Value) (x : List Int) : Prop where
  pl : Pl S W w tb s h s' h' i d j d' cs o o' A A'
  act : w.heap[bx]? = some (.cells #[.int .i64 kind, .int .i64 on, .int .i64 k, tv] 29 (0, 0))
  hx : Ints W.heap.size w tv x
section
variable {S : Nat → Prop} {W w wy : World} {tb s h s' h' i d j d' : Nat} {cs : Array Value} {o o' : List Int} {A A' : List (List Int)} {bx : Nat} {kind on k : Int} {tv : Value} {x : List Int}
theorem Dq.later (q : Dq S W w tb s h s' h' i d j d' cs o o' A A' bx kind on k tv x) (hb : Below w.heap.size w wy) : Dq S W wy tb s h s' h' i d j d' cs o o' A A' bx kind on k tv x :=
  ⟨q.pl.later hb, (hb.block _ (lt_heap q.act)).trans q.act, q.hx.below (hb.mono q.pl.bel.size) (Nat.le_refl _)⟩
theorem Dq.ints (q : Dq S W w tb s h s' h' i d j d' cs o o' A A' bx kind on k tv x) : Ints w.heap.size w tv x := q.hx.mono q.pl.bel.size
theorem Dq.acts (q : Dq S W w tb s h s' h' i d j d' cs o o' A A' bx kind on k tv x) : w.cell? ⟨bx, 0, none⟩ = some (.int .i64 kind) ∧ w.cell? ⟨bx, 1, none⟩ = some (.int .i64 on) ∧ w.cell? ⟨bx, 2, none⟩ = some (.int .i64 k) ∧ w.cell? ⟨bx, 3, none⟩ = some tv := by
  refine ⟨?_, ?_, ?_, ?_⟩ <;> (rw [cell_at q.act]; rfl)
end
end Go.Proofs.Ytmjlhmhkbfnccaa
