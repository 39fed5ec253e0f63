/- New that is refused; Order. -/
import Derived.Test.YtmjlhmhkbfnccaaInsert
namespace Go.Proofs.Ytmjlhmhkbfnccaa
open Go.RowKit Go.Shelf

set_option maxRecDepth 100000 in
set_option maxHeartbeats 4000000 in
theorem new_no (w : World) (ov : Value) (o : List Int) (ho : Ints w.heap.size w ov o) (hr : right o = false) :
    Calls Try.prog 13 #[ov] w fun e w' => e = .returned (.tuple #[.pointer none, .int .i64 1]) ∧ Below w.heap.size w w' := by
  have hc := right_any w.heap.size w ov o ho
  rw [hr] at hc
  obtain ⟨oa, oc, rfl, _⟩ := id ho
  clear ho hr
  go_enter Try.func13, Try.ntmps13
  go_wp2_with (go_at_call 35; refine hc.mono ?_; clear hc; rintro e w' ⟨rfl, rfl⟩)
  go_ret2
  exact ⟨rfl, Below.refl _ _⟩

set_option maxRecDepth 100000 in
set_option maxHeartbeats 4000000 in
theorem order_set (S : Nat → Prop) (w : World) (sb hb : Nat) (o : List Int) (l : List Item) (h : SetAt S w sb hb o l) :
    Calls Try.prog 27 #[.pointer (some ⟨sb, 0, none⟩)] w fun e w' => ∃ r, e = .returned r ∧ OwnI w.heap.size w' r o ∧ Below w.heap.size w w' := by
  obtain ⟨ov, p, d, hh, hov, hT⟩ := h.held
  obtain ⟨oa, oc, rfl, _⟩ := id hov
  have hnow := now_any w sb hb _ _ p oa o.length oc l.length rfl rfl h.s0 hh
  have hfld : ∀ w, (Instr.field 80 (.agg #[.slice oa o.length oc, .pointer p, .int .i64 (l.length : Int)]) 0).run Try.prog w = .ok (.slice oa o.length oc) w := fun w => by kernel_rfl
  have NEXT : Hid (∀ w1, Below w.heap.size w w1 → Calls Try.prog 36 #[.slice oa o.length oc] w1 fun e w' => ∃ r, e = .returned r ∧ OwnI w1.heap.size w' r o ∧ Below w1.heap.size w1 w') := fun w1 hb1 => cloneL_any S w1 _ o (hov.later hb1) (by have := (right_in h.ok).1; omega)
  clear hov hT hh h
  go_enter Try.func27, Try.ntmps27
  go_wp2_with fail
  refine hnow.mono ?_
  clear hnow
  rintro e w1 ⟨rfl, hb1⟩
  have hc := unhide NEXT w1 hb1
  have HB1 := hide hb1
  clear hb1 NEXT
  go_wp2_with fail
  refine hc.mono ?_
  clear hc
  rintro e w2 ⟨r, rfl, hown, hb2⟩
  have hr3 : ∃ a c, r = .slice a o.length c := (by obtain ⟨a, c, e, _⟩ := hown.intsS; exact ⟨a, c, e⟩)
  obtain ⟨ra, rc, rfl⟩ := hr3
  have HO := hide (And.intro hown hb2)
  clear hown hb2
  go_wp2_with fail
  go_ret
  obtain ⟨hown, hb2⟩ := unhide HO
  have hs := (unhide HB1).size
  refine ⟨_, rfl, ⟨hown.1, ?_⟩, (unhide HB1).trans (hb2.mono hs)⟩
  rcases hown.2 with h | ⟨g, cap, cur, h1, h2, h3⟩
  · exact .inl h
  · exact .inr ⟨g, cap, cur, h1, by omega, h3⟩
set_option maxRecDepth 100000 in
set_option maxHeartbeats 4000000 in
theorem new_set2 (w : World) (ov : Value) (o : List Int) (ho : Ints w.heap.size w ov o) (hr : right o = true) :
    Calls Try.prog 13 #[ov] w fun e w' => ∃ sb, e = .returned (.tuple #[.pointer (some ⟨sb, 0, none⟩), .int .i64 0]) ∧ (∃ hb, SetAt (fun b => w.heap.size ≤ b ∧ b ≠ hb) w' sb hb o [] ∧ w.heap.size ≤ hb) ∧ Below w.heap.size w w' := by
  have hc := right_any w.heap.size w ov o ho
  have hcl := cloneL_any (fun b => b < w.heap.size) w ov o (IntsS.of_ints ho (fun _ h => h)) (by have := (right_in hr).1; omega)
  rw [hr] at hc
  obtain ⟨oa, oc, rfl, _⟩ := id ho
  have HR := hide hr
  clear ho hr
  go_enter Try.func13, Try.ntmps13
  go_wp2_with (first
    | (go_at_call 35; refine hc.mono ?_; clear hc; rintro e w' ⟨rfl, rfl⟩)
    | (go_at_call 36; refine hcl.mono ?_; clear hcl; rintro e w1 ⟨r, rfl, hown, hb⟩; have hr3 : ∃ a c, r = .slice a o.length c := (by obtain ⟨a, c, e, _⟩ := hown.intsS; exact ⟨a, c, e⟩); obtain ⟨ra, rc, rfl⟩ := hr3; have HO := hide (And.intro hown hb); clear hown hb))
  go_ret2
  obtain ⟨hown, hb⟩ := unhide HO
  obtain ⟨W, hW⟩ : ∃ W, W = (w1.alloc (.cells #[.slice ra o.length rc, .pointer none, .int .i64 0] 80)).alloc (.cells #[.pointer (some ⟨w1.heap.size, 0, none⟩)] 82) := ⟨_, rfl⟩
  rw [← hW]
  have hs := hb.size
  have hB1 : Below w1.heap.size w1 W := by rw [hW]; exact ((Below.refl _ w1).alloc (Nat.le_refl _) _).alloc (by simp) _
  have hB : Below _ _ W := hb.trans (hB1.mono hs)
  have g0 : W.heap[w1.heap.size]? = some (.cells #[.slice ra o.length rc, .pointer none, .int .i64 0] 80 (0, 0)) := by
    rw [hW, Below.heap_alloc _ _ _ (by simp)]; exact World.alloc_heap_new _ _
  have g1 : W.heap[w1.heap.size + 1]? = some (.cells #[.pointer (some ⟨w1.heap.size, 0, none⟩)] 82 (0, 0)) := by
    rw [hW]
    have := World.alloc_heap_new (w1.alloc (.cells #[.slice ra o.length rc, .pointer none, .int .i64 0] 80)) (.cells #[.pointer (some ⟨w1.heap.size, 0, none⟩)] 82)
    rw [World.size_alloc] at this
    exact this
  refine ⟨_, rfl, ⟨w1.heap.size, ⟨one_cells g1, ⟨by omega, by omega⟩, ⟨_, none, 0, g0, ?_, rfl, rfl⟩, fun h => h.2 rfl, unhide HR, Rises.nil o, by simp⟩, hs⟩, hB⟩
  refine IntsS.stays ?_ (Stays.of_below hB1)
  exact hown.intsS.mono (fun b hb h => ⟨by omega, by omega⟩)
end Go.Proofs.Ytmjlhmhkbfnccaa
