/- The place of a tuple in a node, the kid ahead of it, and whether a tuple is in a tree. -/
import Derived.Test.YthcljhfankooaabGreatBNode
namespace Go.Proofs.YthcljhfankooaabGreat
open Go.RowKit Go.Shelf

set_option maxRecDepth 100000 in
set_option maxHeartbeats 2000000 in
theorem find_any (S : Nat → Prop) (w : World) (d m b n : Nat) (ov tv kv xv : Value) (o x : List Int) (t : Nat → Item) (k : Nat → Option Addr) (c : Nat → List Item) (hN : NodeAt S w d m b n tv kv t k) (hm : m ≤ 1000) (hr : right o = true) (hx : x.length = o.length)
    (ho : Ints w.heap.size w ov o) (hxv : Ints w.heap.size w xv x) (hR : Rises o (seg c t 0 n)) :
    Calls Tryz.prog 119 #[.pointer (some ⟨b, 0, none⟩), ov, xv] w fun e w' => ∃ i, e = .returned (.tuple #[.int .i64 (i : Nat), .bool (found o x t n i)]) ∧ Place o x t n i ∧ Below w.heap.size w w' := by
  obtain ⟨oa, oc, rfl, _⟩ := id ho
  obtain ⟨xa, xc, rfl, _⟩ := id hxv
  have b1 : Below w.heap.size w (w.alloc (.cells #[.slice oa o.length oc] 32)) := (Below.refl _ w).alloc (Nat.le_refl _) _
  have hlen := hN.len
  obtain ⟨ta, tc, rfl, _⟩ := id hN.row
  have hc := bsf_any S (w.alloc (.cells #[.slice oa o.length oc] 32)) w.heap.size n (.slice oa o.length oc) (.slice ta n tc) (.slice xa x.length xc) o x t hr (by omega) hx (Boxed.new w 32 (.slice oa o.length oc)).cell
    ((ho.below b1 (Nat.le_refl _)).mono b1.size) ((hxv.below b1 (Nat.le_refl _)).mono b1.size) (hN.row.later b1) (fun j hj => (hN.items j hj).later b1) (fun j hj => hR.width hj) hR.ts
  have h0 := (b1.cell (p := ⟨b, 0, none⟩) (by obtain ⟨_, h, _⟩ := cells_of_cell hN.c0; exact lt_heap h)).trans hN.c0
  have HX := hide hx
  clear hN hR ho hxv hx hlen
  go_enter Tryz.func119, Tryz.ntmps119
  go_wp2_with (go_at_call 141; refine hc.mono ?_; rintro e w' ⟨i, rfl, hp, hb⟩)
  go_ret2
  exact ⟨i, rfl, hp, b1.trans (hb.mono (by simp))⟩

set_option maxRecDepth 100000 in
set_option maxHeartbeats 2000000 in
theorem kid_any (S : Nat → Prop) (w : World) (d m b n i : Nat) (tv kv : Value) (t : Nat → Item) (k : Nat → Option Addr) (hN : NodeAt S w d m b n tv kv t k) (hi : i ≤ n) :
    Calls Tryz.prog 120 #[.pointer (some ⟨b, 0, none⟩), .int .i64 i] w fun e w' => e = .returned (.pointer (k i)) ∧ w' = w := by
  have h1 := hN.c1
  have hlen := hN.len
  by_cases hd : d = 0
  · obtain ⟨rfl, hk⟩ := hN.leaf hd
    rw [hk i]
    clear hk hN hd
    go_enter Tryz.func120, Tryz.ntmps120
    go_wp2_with fail
    go_ret
    exact ⟨rfl, rfl⟩
  · obtain ⟨ka, kc, rfl, hk1, hk2, hk⟩ := hN.inner hd
    obtain ⟨kb, ko, rfl, _, hc⟩ := hk i (by omega)
    clear hk hN hd
    have hc : w.cell? ⟨kb, ko + i, none⟩ = some (.pointer (k i)) := hc
    have hne : ¬ ((n : Int) + 1 = 0) := by omega
    go_enter Tryz.func120, Tryz.ntmps120
    go_wp2_with fail
    go_ret
    exact ⟨rfl, rfl⟩

set_option maxRecDepth 100000 in
set_option maxHeartbeats 2000000 in
theorem nhas_any (S : Nat → Prop) (ov xv : Value) (o x : List Int) (hr : right o = true) (hx : x.length = o.length) : ∀ (d m : Nat) (w : World) (p : Option Addr) (l : List Item), m ≤ 1000 → Ints w.heap.size w ov o → Ints w.heap.size w xv x → Tree S w d m p l → Rises o l →
    Calls Tryz.prog 90 #[.pointer p, ov, xv] w fun e w' => e = .returned (.bool (hasI x l)) ∧ Below w.heap.size w w' := by
  intro d
  induction d with
  | zero =>
    intro m w p l _ ho hxv hT hR
    obtain ⟨rfl, rfl⟩ := hT
    obtain ⟨oa, oc, rfl, _⟩ := id ho
    obtain ⟨xa, xc, rfl, _⟩ := id hxv
    have HX := hide hx
    clear hx
    go_enter Tryz.func90, Tryz.ntmps90
    go_wp2_with fail
    go_ret
    exact ⟨rfl, Below.refl _ _⟩
  | succ d ih =>
    intro m w p l hm ho hxv hT hR
    obtain ⟨b, n, tv, kv, t, c, k, rfl, rfl, hN, hk⟩ := hT
    have hf := find_any S w d m b n ov tv kv xv o x t k c hN hm hr hx ho hxv hR
    obtain ⟨oa, oc, rfl, _⟩ := id ho
    obtain ⟨xa, xc, rfl, _⟩ := id hxv
    have NEXT : Hid (∀ i w1, Place o x t n i → Below w.heap.size w w1 → hasI x (seg c t 0 n) = (found o x t n i || hasI x (c i)) ∧ (Calls Tryz.prog 120 #[.pointer (some ⟨b, 0, none⟩), .int .i64 (i : Nat)] w1 fun e w' => e = .returned (.pointer (k i)) ∧ w' = w1) ∧
        (Calls Tryz.prog 90 #[.pointer (k i), .slice oa o.length oc, .slice xa x.length xc] w1 fun e w' => e = .returned (.bool (hasI x (c i))) ∧ Below w1.heap.size w1 w')) := fun i w1 hp hb =>
      ⟨hasI_node hr hR hx hp.1 hp.2.1 hp.2.2, kid_any S w1 d m b n i tv kv t k (hN.stays (Stays.of_below hb)) hp.1,
        ih 15 w1 (k i) (c i) (by omega) ((ho.below hb (Nat.le_refl _)).mono hb.size) ((hxv.below hb (Nat.le_refl _)).mono hb.size) ((hk i hp.1).later hb) (hR.kid hp.1)⟩
    have HX := hide hx
    clear ih hN hk hR ho hxv hx
    go_enter Tryz.func90, Tryz.ntmps90
    go_wp2_with (first
      | (go_at_call 119; refine hf.mono ?_; clear hf; rintro e w1 ⟨i, rfl, hp, hb⟩; obtain ⟨he, hkid, hrec⟩ := unhide NEXT i w1 hp hb; have HE := hide he; clear he NEXT hp; generalize found o x t n i = fnd at HE ⊢)
      | (go_at_call 120; refine hkid.mono ?_; clear hkid; rintro e w2 ⟨rfl, rfl⟩)
      | (go_at_call 90; refine hrec.mono ?_; clear hrec; rintro e w2 ⟨rfl, hb2⟩))
    · go_ret
      exact ⟨ret_bool (by rw [unhide HE]; cases fnd <;> simp_all), hb⟩
    · go_ret
      exact ⟨ret_bool (by rw [unhide HE]; cases fnd <;> simp_all), hb.trans (hb2.mono hb.size)⟩
end Go.Proofs.YthcljhfankooaabGreat
