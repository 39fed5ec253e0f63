/- Walks of Turn and Back, and of the document's. -/
import Derived.Test.YtklmhgljhmodlaaHeads
import Derived.Deep.RegionWith
import Derived.StillTailTactics
namespace Go.Proofs.Ytklmhgljhmodlaa
open Go.RowKit

theorem info3 : (Try.prog.info? 3).map (fun i => (i.zero, i.size, i.bytes)) = some (some (.int .i64 0), 1, 8) := by kernel_rfl

/-- A row of numbers that was made since. -/
def OwnI (base : Nat) (w : World) (v : Value) (l : List Int) : Prop := w.ownsRow base 3 1 v l.length (l.map (Value.int .i64))
theorem OwnI.nil (base : Nat) (w : World) : OwnI base w (.slice none 0 0) [] := World.ownsRow_nil w base 3 1
theorem OwnI.ints {base : Nat} {w : World} {v : Value} {l : List Int} (h : OwnI base w v l) : Ints w.heap.size w v l := by
  rcases h.2 with ⟨rfl, h0⟩ | ⟨g, cap, cur, rfl, hb, hg, hn, hm, hs, ht⟩
  · have : l = [] := List.length_eq_zero_iff.1 h0
    subst this
    exact Ints.nil _ _
  · refine ⟨_, cap, rfl, hn, by unfold maxLen at hm; omega, fun j x hj => ⟨g, 0, rfl, ?_, ?_⟩⟩
    · exact (Array.getElem?_eq_some_iff.1 hg).1
    · have hj2 : j < l.length := (List.getElem?_eq_some_iff.1 hj).1
      have := World.ownsRow.cellAt h j (by omega)
      rw [Nat.zero_add, this, List.getElem?_map, hj]
      rfl
theorem OwnI.of {base : Nat} {w : World} {v : Value} {l : List Int} {n : Nat} {xs : List Value} (h : w.ownsRow base 3 1 v n xs) (hn : n = l.length) (hx : xs = l.map (Value.int .i64)) : OwnI base w v l := by subst hn hx; exact h

/-- A region that leaves its order open: its head only reads, its tail goes in the order of the text. -/
theorem region_tail {P : Program} {id : Nat} {Q : Exit → Act → World → Prop} {a : Act} {w : World} {l : List Oper} (n : Nat) (hm : P.follows .mixedOrders = true) (hB : Region.lexTailB .any l.toArray n = true)
    (h : wpStill P l.toArray w.drew (fun a' => wpList P l.toArray Q (l.drop n) a' w.drew) (l.take n) a) : (Code.region id l.toArray true).wp P Q a w :=
  wp_region_still_tail n hm hB h

/-- The turned tuple, as far as k numbers go. -/
def tTo (o t : List Int) (k : Nat) : List Int := (turn o t).take k ++ List.replicate (o.length - k) 0
theorem tTo_length {o t : List Int} {k : Nat} (hk : k ≤ o.length) : (tTo o t k).length = o.length := by simp [tTo, turn_length]; omega
theorem tTo_zero (o t : List Int) : tTo o t 0 = List.replicate o.length 0 := by simp [tTo]
theorem tTo_end (o t : List Int) : tTo o t o.length = turn o t := by simp [tTo, turn_length, List.take_of_length_le]
theorem tTo_next {o t : List Int} {k : Nat} (hk : k < o.length) : (tTo o t k).set k (at_ t o[k]) = tTo o t (k + 1) := by
  unfold tTo
  rw [turn_take hk, List.set_append_right _ _ (by simp [turn_length]; omega)]
  have e : (List.take k (turn o t)).length = k := by simp [turn_length]; omega
  rw [e, Nat.sub_self, show o.length - k = (o.length - (k + 1)) + 1 by omega, List.replicate_succ]
  simp

theorem map_set (l : List Int) (k : Nat) (x : Int) : (l.map (Value.int .i64)).set k (.int .i64 x) = (l.set k x).map (Value.int .i64) := by rw [List.map_set]
theorem turnA_fit {o t : List Int} (h : fitN o [t.length] = true) : turnA o t = turn o t := if_pos h
theorem turnA_not {o t : List Int} (h : fitN o [t.length] = false) : turnA o t = [] := if_neg (by simp [h])
theorem backA_fit {o t : List Int} (h : fitN o [t.length] = true) : backA o t = back o t := if_pos h
theorem backA_not {o t : List Int} (h : fitN o [t.length] = false) : backA o t = [] := if_neg (by simp [h])

/-- A column of the order, and the tuple's number there. -/
theorem cols2 {B : Nat} {w : World} {a a2 : Option Addr} {n n2 cap cap2 : Nat} {o t : List Int} (ho : Ints B w (.slice a n cap) o) (ht : Ints B w (.slice a2 n2 cap2) t)
    (hf : fitN o [t.length] = true) {k : Nat} (hk : k < o.length) : ∃ b0 o0 b1 o1, ∃ x : Int, a = some ⟨b0, o0, none⟩ ∧ a2 = some ⟨b1, o1, none⟩ ∧ x = o[k] ∧ 0 ≤ x ∧ x < (t.length : Int) ∧ x < (o.length : Int) ∧
      w.cell? ⟨b0, o0 + k, none⟩ = some (.int .i64 x) ∧ w.cell? ⟨b1, o1 + x.toNat, none⟩ = some (.int .i64 (at_ t x)) ∧ w.cell? ⟨b1, o1 + k, none⟩ = some (.int .i64 (t.getD k 0)) ∧ b0 < B ∧ b1 < B := by
  obtain ⟨e1, hr⟩ := fitN_one hf
  obtain ⟨h0, h1⟩ := (right_in hr).2 o[k] (List.getElem_mem hk)
  have n2e : n2 = t.length := by obtain ⟨_, _, e, _⟩ := ht; simp only [Value.slice.injEq] at e; exact e.2.1
  have n1e : n = o.length := by obtain ⟨_, _, e, _⟩ := ho; simp only [Value.slice.injEq] at e; exact e.2.1
  obtain ⟨_, b0, o0, g1, g1b, g2⟩ := ho.at_ (x := (k : Int)) (by omega) (by omega)
  obtain ⟨_, b1, o1, g3, g3b, g4⟩ := ht.at_ h0 (by omega)
  obtain ⟨_, b1', o1', g5, _, g6⟩ := ht.at_ (x := (k : Int)) (by omega) (by omega)
  rw [g3] at g5
  simp only [Option.some.injEq, Addr.mk.injEq, and_true] at g5
  obtain ⟨rfl, rfl⟩ := g5
  refine ⟨b0, o0, b1, o1, o[k], g1, g3, rfl, h0, by omega, by omega, ?_, g4, ?_, g1b, g3b⟩
  · rw [Int.toNat_natCast] at g2; rw [g2]; simp [at_, List.getD, List.getElem?_eq_getElem hk]
  · rw [Int.toNat_natCast] at g6; rw [g6]; simp [at_]

def TRel (w : World) (g : Nat) (o t : List Int) (i : Value) (wr : World) : Prop := ∃ k : Nat, k ≤ o.length ∧ i = .int .i64 k ∧ OwnI w.heap.size wr (.slice (some ⟨g, 0, none⟩) o.length o.length) (tTo o t k) ∧ Below w.heap.size w wr

theorem OwnI.made {base : Nat} {w : World} {v : Value} {n : Nat} (h : w.ownsRow base 3 1 v n (madeCells (Value.int .i64 0).cells (n * 1)).toList) : OwnI base w v (List.replicate n 0) := by
  refine OwnI.of h (by simp) ?_
  rw [show (Value.int .i64 0).cells = #[Value.int .i64 0] from rfl, toList_madeCells_one, List.map_replicate, Nat.mul_one]
theorem OwnI.stored {base : Nat} {w : World} {g cap : Nat} {l : List Int} {n : Nat} (h : OwnI base w (.slice (some ⟨g, 0, none⟩) n cap) l) (hn : n = l.length) (j : Nat) (x : Int) : OwnI base (w.setCell ⟨g, j, none⟩ (.int .i64 x)) (.slice (some ⟨g, 0, none⟩) n cap) (l.set j x) := by
  subst hn
  refine OwnI.of (World.ownsRow.stored h j (.int .i64 x)).1 (by simp) (map_set l j x)
theorem OwnI.base_le {base : Nat} {w : World} {g cap n : Nat} {l : List Int} (h : OwnI base w (.slice (some ⟨g, 0, none⟩) n cap) l) : base ≤ g := (World.ownsRow.lt h g rfl).1
theorem OwnI.cell {base : Nat} {w : World} {g cap n : Nat} {l : List Int} (h : OwnI base w (.slice (some ⟨g, 0, none⟩) n cap) l) {j : Nat} (hj : j < l.length) : w.cell? ⟨g, j, none⟩ = some (.int .i64 l[j]) ∧ w.frozen? ⟨g, j, none⟩ = false := by
  have hn : n = l.length := by
    rcases h.2 with ⟨h', _⟩ | ⟨g', cap', cur, h', _⟩
    · simp at h'
    · simp only [Value.slice.injEq] at h'; exact h'.2.1
  subst hn
  refine ⟨?_, World.ownsRow.frozenAt h j⟩
  rw [World.ownsRow.cellAt h j (by omega), List.getElem?_map, List.getElem?_eq_getElem hj]
  rfl

set_option maxRecDepth 100000 in
set_option maxHeartbeats 4000000 in
theorem turn_any (B : Nat) (w : World) (u v : Value) (o t : List Int) (hB : B ≤ w.heap.size) (ho : Ints B w u o) (ht : Ints B w v t) :
    Calls Try.prog 16 #[u, v] w fun e w' => ∃ r, e = .returned r ∧ OwnI w.heap.size w' r (turnA o t) ∧ Below w.heap.size w w' := by
  have HO := hide ho
  have HT := hide ht
  obtain ⟨a, cap, rfl, hc1, hc2, _⟩ := ho
  obtain ⟨a2, cap2, rfl, hd1, hd2, _⟩ := ht
  obtain ⟨i0, hi, hz0, hz1, hz2⟩ := info_parts info3
  have HI := hide (And.intro hi (And.intro hz0 (And.intro hz1 hz2)))
  clear hi hz0 hz1 hz2
  go_enter Try.func16, Try.ntmps16
  go_wp2_with fail
  have b1 := one_below w (.slice a2 t.length cap2)
  have hw2 := one_widths w a2 t.length cap2
  generalize w.alloc (.cells #[.slice a2 t.length cap2] 22) = w1 at b1 hw2 ⊢
  refine (fit1_any B w1 _ o ((unhide HO).below b1 hB) w.heap.size t.length hw2).mono ?_
  rintro e w' ⟨rfl, rfl⟩
  cases hf : fitN o [t.length] with
  | false =>
    have H := hide (turnA_not hf)
    clear hf hw2
    go_wp2_with fail
    go_ret
    exact ⟨_, rfl, by rw [unhide H]; exact OwnI.nil _ _, b1⟩
  | true =>
    have HF := hide hf
    have B1 := hide b1
    have h8 : o.length ≤ 8 := (right_in (fitN_one hf).2).1
    have hs1 : w.heap.size ≤ w'.heap.size := b1.size
    clear hf hw2 b1
    go_wp2_with (at_make; refine wpList_make_full _ rfl _ _ 22 rfl w.heap.size 3 i0 (.int .i64 0) 1 Try.underlying22 (unhide HI).1 (unhide HI).2.1 (unhide HI).2.2.1 _ _ _ _ o.length rfl rfl rfl rfl (by rw [(unhide HI).2.2.2]; omega) (by unfold maxLen; omega) hs1 ?_; intro w2 hown hgrow)
    have b2 : Below w.heap.size w w2 := (unhide B1).grown hgrow hs1 (fun k e => by cases e)
    have hO := OwnI.made hown
    rw [← tTo_zero o t] at hO
    generalize w'.heap.size = g at hO ⊢
    have HO2 := hide hO
    have B2 := hide b2
    clear hown hgrow b2 hO B1
    go_wp2_with fail
    go_loopw [17] (fun i wr => TRel w g o t i wr) (fun i _ => o.length - (intOf i).toNat)
    case atStart => exact ⟨0, Nat.zero_le _, rfl, unhide HO2, unhide B2⟩
    case round =>
      obtain ⟨k, hk, rfl, hr, hb⟩ := hrel
      have HR := hide hr
      have HB := hide hb
      clear HO2 B2
      by_cases hlt : k < o.length
      · obtain ⟨b0, o0, b1, o1, x, rfl, rfl, hx, x0, x1, _, y0, y1, _, _, _⟩ := cols2 ((unhide HO).below hb hB) ((unhide HT).below hb hB) (unhide HF) hlt
        obtain ⟨z0, z1⟩ := hr.cell (j := k) (by rw [tTo_length hk]; exact hlt)
        have HN := hide (tTo_next (t := t) hlt)
        rw [← hx] at HN
        generalize (tTo o t k)[k]'_ = c0 at z0
        generalize at_ t x = p at *
        clear hx hb hr
        go_wp2_with fail
        go_roundw
        case rel =>
          refine ⟨k + 1, by omega, by go_num, ?_, (unhide HB).setCell (OwnI.base_le (unhide HR)) _⟩
          rw [← unhide HN]
          exact (unhide HR).stored (tTo_length hk).symm k p
        case measure => simp [intOf]; omega
      · have hk2 : k = o.length := by omega
        have HN : Hid (OwnI w.heap.size wr (.slice (some ⟨g, 0, none⟩) o.length o.length) (turnA o t)) := by
          show OwnI _ _ _ _
          rw [turnA_fit (unhide HF), ← tTo_end, ← hk2]
          rw [hk2] at hr ⊢
          exact hr
        clear hb hk2 hr
        go_wp2_with fail
        go_ret
        exact ⟨_, rfl, unhide HN, unhide HB⟩
end Go.Proofs.Ytklmhgljhmodlaa
