/- BtreePlays: the two sets are made. -/
import Derived.Test.YtmjlhmhkbfnccaaPlaysA
namespace Go.Proofs.Ytmjlhmhkbfnccaa
open Go.RowKit Go.Shelf Go.Maps

set_option maxRecDepth 100000 in
set_option maxHeartbeats 4000000 in
theorem rnew_nil (w : World) (ov : Value) (o : List Int) (ho : Ints w.heap.size w ov o) (hr : right o = false) :
    Calls Try.prog 25 #[ov] w fun e w' => e = .returned (.tuple #[.agg #[.slice none 0 0, .slice none 0 0], .int .i64 1]) ∧ Below w.heap.size w w' := by
  obtain ⟨w1, hw1⟩ : ∃ w1, w1 = w.alloc (.cells #[.slice none 0 0, .slice none 0 0] 56) := ⟨_, rfl⟩
  have b1 : Below w.heap.size w w1 := by rw [hw1]; exact (Below.refl _ w).alloc (Nat.le_refl _) _
  have hnw : w1.heap[w.heap.size]? = some (.cells #[.slice none 0 0, .slice none 0 0] 56 (0, 0)) := by rw [hw1]; exact World.alloc_heap_new _ _
  have hc := rright_any w1.heap.size w1 ov o ((ho.below b1 (Nat.le_refl _)).mono b1.size)
  rw [hr] at hc
  obtain ⟨oa, oc, rfl, _⟩ := id ho
  obtain ⟨c0, c1, q0, q1⟩ := two_cells hnw
  have HB := hide (And.intro b1 hnw)
  clear ho hr b1 hnw
  go_enter Try.func25, Try.ntmps25
  go_wp2_with fail
  rw [← hw1]
  refine hc.mono ?_
  clear hc
  rintro e w' ⟨rfl, hw'⟩
  subst hw'
  clear hw1
  go_wp2_with fail
  have hW := set_heap (set_heap (unhide HB).2 0 (.slice none 0 0)) 1 (.slice none 0 0)
  obtain ⟨d0, d1, _⟩ := two_cells (x := .slice none 0 0) (y := .slice none 0 0) (t := 56) hW
  refine bodyPost_ret (v := .tuple #[.agg #[.slice none 0 0, .slice none 0 0], .int .i64 1]) (by simp [results, Try.f25, go_sem, d0, d1]) rfl ?_
  exact ⟨rfl, ((unhide HB).1.setCell (p := ⟨w.heap.size, 0, none⟩) (Nat.le_refl _) _).setCell (p := ⟨w.heap.size, 1, none⟩) (Nat.le_refl _) _⟩


set_option maxRecDepth 100000 in
set_option maxHeartbeats 8000000 in
theorem begun_any (w : World) (ov ov' : Value) (o o' : List Int) (ho : Ints w.heap.size w ov o) (ho' : Ints w.heap.size w ov' o') :
    Calls Try.prog 9 #[ov, ov'] w fun e w' => (e = .returned (.tuple #[.pointer none, .bool true]) ∧ Below w.heap.size w w') ∨ (∃ tb s h s' h' cs S, e = .returned (.tuple #[.pointer (some ⟨tb, 0, none⟩), .bool true]) ∧ Pl S w w' tb s h s' h' 0 2 1 4 cs o o' [] []) := by
  have HO := hide (And.intro ho ho')
  obtain ⟨oa, oc, rfl, _⟩ := id ho
  obtain ⟨oa', oc', rfl, _⟩ := id ho'
  clear ho ho'
  have LATER : Hid (∀ w1, Below w.heap.size w w1 → Ints w1.heap.size w1 (.slice oa o.length oc) o ∧ Ints w1.heap.size w1 (.slice oa' o'.length oc') o') := fun w1 hb => ⟨((unhide HO).1.below hb (Nat.le_refl _)).mono hb.size, ((unhide HO).2.below hb (Nat.le_refl _)).mono hb.size⟩
  cases h1 : right o with
  | false =>
    cases h2 : right o' with
    | false =>
      have n1 := new_no w _ o (unhide HO).1 h1
      have H12 := hide (And.intro h1 h2)
      clear h1 h2
      go_enter Try.func9, Try.ntmps9
      go_wp2_with fail
      refine n1.mono ?_
      clear n1
      rintro e w1 ⟨rfl, b1⟩
      have n2 := new_no w1 _ o' (unhide LATER w1 b1).2 (unhide H12).2
      have HB1 := hide b1
      clear b1
      go_wp2_with fail
      refine n2.mono ?_
      clear n2
      rintro e w2 ⟨rfl, b2'⟩
      have b2 := (unhide HB1).trans (b2'.mono (unhide HB1).size)
      have n3 := rnew_nil w2 _ o (unhide LATER w2 b2).1 (unhide H12).1
      have HB2 := hide (And.intro b2 b2')
      clear b2 b2'
      go_wp2_with fail
      refine n3.mono ?_
      clear n3
      rintro e w3 ⟨rfl, b3'⟩
      obtain ⟨w4, hw4⟩ : ∃ w4, w4 = w3.alloc (.cells #[.slice none 0 0, .slice none 0 0] 56) := ⟨_, rfl⟩
      have b34 : Below w3.heap.size w3 w4 := by rw [hw4]; exact (Below.refl _ w3).alloc (Nat.le_refl _) _
      have b24 : Below w2.heap.size w2 w4 := b3'.trans (b34.mono b3'.size)
      have b4 : Below w.heap.size w w4 := (unhide HB2).1.trans (b24.mono (unhide HB2).1.size)
      have k4 : w4.heap[w3.heap.size]? = some (.cells #[.slice none 0 0, .slice none 0 0] 56 (0, 0)) := by rw [hw4]; exact World.alloc_heap_new _ _
      have l4 := lt_heap k4
      have n4 := rnew_nil w4 _ o' (unhide LATER w4 b4).2 (unhide H12).2
      have HB4 := hide (And.intro b4 (And.intro b24 (And.intro b3'.size k4)))
      clear b4 b24 b34 b3' k4
      go_wp2_with fail
      rw [← hw4]
      clear hw4
      refine n4.mono ?_
      clear n4
      rintro e w5 ⟨rfl, b5'⟩
      have b5 := (unhide HB4).1.trans (b5'.mono (unhide HB4).1.size)
      have HB5 := hide b5
      clear b5 b5'
      go_wp2_with fail
      go_ret2
      exact .inl ⟨rfl, (unhide HB5).alloc (unhide HB5).size _⟩
    | true =>
      have n1 := new_no w _ o (unhide HO).1 h1
      have H12 := hide (And.intro h1 h2)
      clear h1 h2
      go_enter Try.func9, Try.ntmps9
      go_wp2_with fail
      refine n1.mono ?_
      clear n1
      rintro e w1 ⟨rfl, b1⟩
      have n2 := new_T2 w1 _ o' (unhide LATER w1 b1).2 (unhide H12).2
      have HB1 := hide b1
      clear b1
      go_wp2_with fail
      refine n2.mono ?_
      clear n2
      rintro e w2 ⟨s', rfl, ⟨h', hT', lh'⟩, b2'⟩
      have HT' := hide (And.intro hT' lh')
      clear hT' lh'
      have b2 := (unhide HB1).trans (b2'.mono (unhide HB1).size)
      have n3 := rnew_nil w2 _ o (unhide LATER w2 b2).1 (unhide H12).1
      have HB2 := hide (And.intro b2 b2')
      clear b2 b2'
      go_wp2_with fail
      refine n3.mono ?_
      clear n3
      rintro e w3 ⟨rfl, b3'⟩
      obtain ⟨w4, hw4⟩ : ∃ w4, w4 = w3.alloc (.cells #[.slice none 0 0, .slice none 0 0] 56) := ⟨_, rfl⟩
      have b34 : Below w3.heap.size w3 w4 := by rw [hw4]; exact (Below.refl _ w3).alloc (Nat.le_refl _) _
      have b24 : Below w2.heap.size w2 w4 := b3'.trans (b34.mono b3'.size)
      have b4 : Below w.heap.size w w4 := (unhide HB2).1.trans (b24.mono (unhide HB2).1.size)
      have k4 : w4.heap[w3.heap.size]? = some (.cells #[.slice none 0 0, .slice none 0 0] 56 (0, 0)) := by rw [hw4]; exact World.alloc_heap_new _ _
      have l4 := lt_heap k4
      have n4 := rnew_any w4 _ o' (unhide LATER w4 b4).2 (unhide H12).2
      have HB4 := hide (And.intro b4 (And.intro b24 (And.intro b3'.size k4)))
      clear b4 b24 b34 b3' k4
      go_wp2_with fail
      rw [← hw4]
      clear hw4
      refine n4.mono ?_
      clear n4
      rintro e w5 ⟨ra', rc', rfl, hI', b5'⟩
      have b5 := (unhide HB4).1.trans (b5'.mono (unhide HB4).1.size)
      have HB5 := hide b5
      clear b5 b5' hI'
      go_wp2_with fail
      go_ret2
      exact .inl ⟨rfl, (unhide HB5).alloc (unhide HB5).size _⟩
  | true =>
    cases h2 : right o' with
    | false =>
      have n1 := new_T2 w _ o (unhide HO).1 h1
      have H12 := hide (And.intro h1 h2)
      clear h1 h2
      go_enter Try.func9, Try.ntmps9
      go_wp2_with fail
      refine n1.mono ?_
      clear n1
      rintro e w1 ⟨s, rfl, ⟨h, hT, lh⟩, b1⟩
      have HT := hide (And.intro hT lh)
      clear hT lh
      have n2 := new_no w1 _ o' (unhide LATER w1 b1).2 (unhide H12).2
      have HB1 := hide b1
      clear b1
      go_wp2_with fail
      refine n2.mono ?_
      clear n2
      rintro e w2 ⟨rfl, b2'⟩
      have b2 := (unhide HB1).trans (b2'.mono (unhide HB1).size)
      have n3 := rnew_any w2 _ o (unhide LATER w2 b2).1 (unhide H12).1
      have HB2 := hide (And.intro b2 b2')
      clear b2 b2'
      go_wp2_with fail
      refine n3.mono ?_
      clear n3
      rintro e w3 ⟨ra, rc, rfl, hI, b3'⟩
      obtain ⟨w4, hw4⟩ : ∃ w4, w4 = w3.alloc (.cells #[.slice ra o.length rc, .slice none 0 0] 56) := ⟨_, rfl⟩
      have b34 : Below w3.heap.size w3 w4 := by rw [hw4]; exact (Below.refl _ w3).alloc (Nat.le_refl _) _
      have b24 : Below w2.heap.size w2 w4 := b3'.trans (b34.mono b3'.size)
      have b4 : Below w.heap.size w w4 := (unhide HB2).1.trans (b24.mono (unhide HB2).1.size)
      have k4 : w4.heap[w3.heap.size]? = some (.cells #[.slice ra o.length rc, .slice none 0 0] 56 (0, 0)) := by rw [hw4]; exact World.alloc_heap_new _ _
      have l4 := lt_heap k4
      have n4 := rnew_nil w4 _ o' (unhide LATER w4 b4).2 (unhide H12).2
      have HI := hide (hI.later b34)
      clear hI
      have HB4 := hide (And.intro b4 (And.intro b24 (And.intro b3'.size k4)))
      clear b4 b24 b34 b3' k4
      go_wp2_with fail
      rw [← hw4]
      clear hw4
      refine n4.mono ?_
      clear n4
      rintro e w5 ⟨rfl, b5'⟩
      have b5 := (unhide HB4).1.trans (b5'.mono (unhide HB4).1.size)
      have HB5 := hide b5
      clear b5 b5'
      go_wp2_with fail
      go_ret2
      exact .inl ⟨rfl, (unhide HB5).alloc (unhide HB5).size _⟩
    | true =>
      have n1 := new_T2 w _ o (unhide HO).1 h1
      have H12 := hide (And.intro h1 h2)
      clear h1 h2
      go_enter Try.func9, Try.ntmps9
      go_wp2_with fail
      refine n1.mono ?_
      clear n1
      rintro e w1 ⟨s, rfl, ⟨h, hT, lh⟩, b1⟩
      have HT := hide (And.intro hT lh)
      clear hT lh
      have n2 := new_T2 w1 _ o' (unhide LATER w1 b1).2 (unhide H12).2
      have HB1 := hide b1
      clear b1
      go_wp2_with fail
      refine n2.mono ?_
      clear n2
      rintro e w2 ⟨s', rfl, ⟨h', hT', lh'⟩, b2'⟩
      have HT' := hide (And.intro hT' lh')
      clear hT' lh'
      have b2 := (unhide HB1).trans (b2'.mono (unhide HB1).size)
      have n3 := rnew_any w2 _ o (unhide LATER w2 b2).1 (unhide H12).1
      have HB2 := hide (And.intro b2 b2')
      clear b2 b2'
      go_wp2_with fail
      refine n3.mono ?_
      clear n3
      rintro e w3 ⟨ra, rc, rfl, hI, b3'⟩
      obtain ⟨w4, hw4⟩ : ∃ w4, w4 = w3.alloc (.cells #[.slice ra o.length rc, .slice none 0 0] 56) := ⟨_, rfl⟩
      have b34 : Below w3.heap.size w3 w4 := by rw [hw4]; exact (Below.refl _ w3).alloc (Nat.le_refl _) _
      have b24 : Below w2.heap.size w2 w4 := b3'.trans (b34.mono b3'.size)
      have b4 : Below w.heap.size w w4 := (unhide HB2).1.trans (b24.mono (unhide HB2).1.size)
      have k4 : w4.heap[w3.heap.size]? = some (.cells #[.slice ra o.length rc, .slice none 0 0] 56 (0, 0)) := by rw [hw4]; exact World.alloc_heap_new _ _
      have l4 := lt_heap k4
      have n4 := rnew_any w4 _ o' (unhide LATER w4 b4).2 (unhide H12).2
      have HI := hide (hI.later b34)
      clear hI
      have HB4 := hide (And.intro b4 (And.intro b24 (And.intro b3'.size k4)))
      clear b4 b24 b34 b3' k4
      go_wp2_with fail
      rw [← hw4]
      clear hw4
      refine n4.mono ?_
      clear n4
      rintro e w5 ⟨ra', rc', rfl, hI', b5'⟩
      have b5 := (unhide HB4).1.trans (b5'.mono (unhide HB4).1.size)
      obtain ⟨w6, hw6⟩ : ∃ w6, w6 = w5.alloc (.cells #[.slice ra' o'.length rc', .slice none 0 0] 56) := ⟨_, rfl⟩
      have b56 : Below w5.heap.size w5 w6 := by rw [hw6]; exact (Below.refl _ w5).alloc (Nat.le_refl _) _
      have b46 : Below w4.heap.size w4 w6 := b5'.trans (b56.mono b5'.size)
      have k6 : w6.heap[w5.heap.size]? = some (.cells #[.slice ra' o'.length rc', .slice none 0 0] 56 (0, 0)) := by rw [hw6]; exact World.alloc_heap_new _ _
      have k46 := (b46.block _ l4).trans (unhide HB4).2.2.2
      obtain ⟨c0, c1, _⟩ := two_cells ((b5'.block _ l4).trans (unhide HB4).2.2.2)
      have n35 : w3.heap.size ≠ w5.heap.size := by have := b5'.size; omega
      have l35 : w3.heap.size < w5.heap.size := by have := b5'.size; omega
      have b06 := b5.trans (b56.mono b5.size)
      have HI' := hide (hI'.later b56)
      have HB6 := hide (And.intro b06 (And.intro b46 (And.intro b5'.size b56.size)))
      have HW6 := hide hw6
      clear b5 b5' b56 b46 b06 k6 k46 hI' l4 hw6
      go_wp2_with fail
      rw [← unhide HW6]
      go_ret2
      refine .inr ?_
      obtain ⟨b06, b46, z5, z56⟩ := unhide HB6
      obtain ⟨b04, b24, z23, _⟩ := unhide HB4
      obtain ⟨b02, b12⟩ := unhide HB2
      obtain ⟨hT, lh⟩ := unhide HT
      obtain ⟨hT', lh'⟩ := unhide HT'
      have z1 := (unhide HB1).size
      have y1 := hT.lt
      have y2 := hT'.lt
      have z12 := b12.size
      have z24 := b24.size
      have z46 := b46.size
      have b26 : Below w2.heap.size w2 w6 := b24.trans (b46.mono z24)
      have b16 : Below w1.heap.size w1 w6 := b12.trans (b26.mono z12)
      obtain ⟨w7, hw7⟩ : ∃ w7, w7 = w6.alloc (.cells #[.pointer (some ⟨s, 0, none⟩), .pointer (some ⟨s', 0, none⟩), .slice ra o.length rc, .slice none 0 0, .slice ra' o'.length rc', .slice none 0 0] 66) := ⟨_, rfl⟩
      have b67 : Below w6.heap.size w6 w7 := by rw [hw7]; exact (Below.refl _ w6).alloc (Nat.le_refl _) _
      have k7 : w7.heap[w6.heap.size]? = some (.cells #[.pointer (some ⟨s, 0, none⟩), .pointer (some ⟨s', 0, none⟩), .slice ra o.length rc, .slice none 0 0, .slice ra' o'.length rc', .slice none 0 0] 66 (0, 0)) := by rw [hw7]; exact World.alloc_heap_new _ _
      have hnil : ∀ (S : Nat → Prop) (w : World), ListAt S w (.slice none 0 0) [] := fun S w => ⟨fun _ => undef, Row.nil _ _ _, fun j hj => (by cases hj)⟩
      have z67 : w7.heap.size = w6.heap.size + 1 := by rw [hw7]; simp
      have t1 := ((hT.mono (S' := fun b => b ≠ h ∧ b ≠ h' ∧ b ≠ w6.heap.size) (fun b hb hs => ⟨hs.2, by omega, by omega⟩) (fun e => e.1 rfl)).later b16).later b67
      have t2 := ((hT'.mono (S' := fun b => b ≠ h ∧ b ≠ h' ∧ b ≠ w6.heap.size) (fun b hb hs => ⟨by omega, hs.2, by omega⟩) (fun e => e.2.1 rfl)).later b26).later b67
      have i1 := (((unhide HI).mono (S' := fun b => b ≠ h ∧ b ≠ h' ∧ b ≠ w6.heap.size) (fun b hb hs => ⟨by omega, by omega, by omega⟩)).later b46).later b67
      have i2 := ((unhide HI').mono (S' := fun b => b ≠ h ∧ b ≠ h' ∧ b ≠ w6.heap.size) (fun b hb hs => ⟨by omega, by omega, by omega⟩)).later b67
      have e6 : w6.heap.size = w5.heap.size + 1 := by rw [unhide HW6]; simp
      rw [← hw7]
      refine ⟨w6.heap.size, s, h, s', h', _, (fun b => b ≠ h ∧ b ≠ h' ∧ b ≠ w6.heap.size), (by rw [e6]; rfl), t1, t2, ⟨⟨_, _, ⟨_, k7, rfl, rfl⟩, i1, hnil _ _, fun _ => rfl⟩, fun e => e.2.2 rfl⟩, ⟨⟨_, _, ⟨_, k7, rfl, rfl⟩, i2, hnil _ _, fun _ => rfl⟩, fun e => e.2.2 rfl⟩, rfl, rfl, ⟨fun e => e.1 rfl, fun e => e.2.1 rfl, fun e => e.2.2 rfl⟩, fun b hb => ⟨by omega, by omega, by omega⟩, ⟨by omega, by omega, by omega⟩, ⟨by omega, by omega, b06.size⟩, b06.trans (b67.mono b06.size), .inl ⟨rfl, rfl, rfl, rfl⟩⟩
end Go.Proofs.Ytmjlhmhkbfnccaa
