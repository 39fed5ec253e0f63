/- Same: are two lists of tuples the same. -/
import Derived.Test.YtmjlhmhkbfnccaaLists
namespace Go.Proofs.Ytmjlhmhkbfnccaa
open Go.RowKit Go.Shelf

def sameLB (xs ys : List (List Int)) : Bool := decide (xs = ys)
def SLRel (w : World) (xs ys : List (List Int)) (i : Value) (wr : World) : Prop := ∃ k : Nat, k ≤ xs.length ∧ i = .int .i64 k ∧ xs.take k = ys.take k ∧ Below w.heap.size w wr
theorem sameL_next {l m : List (List Int)} {k : Nat} (h1 : k < l.length) (h2 : k < m.length) (h : l.take k = m.take k) (e : l[k] = m[k]) : l.take (k + 1) = m.take (k + 1) := by
  rw [List.take_succ_eq_append_getElem h1, List.take_succ_eq_append_getElem h2, h, e]

set_option maxRecDepth 100000 in
set_option maxHeartbeats 4000000 in
theorem rsame_any (S : Nat → Prop) (w : World) (u v : Value) (xs ys : List (List Int)) (hu : ListAt S w u xs) (hv : ListAt S w v ys) :
    Calls Try.prog 16 #[u, v] w fun e w' => e = .returned (.bool (sameLB xs ys)) ∧ Below w.heap.size w w' := by
  obtain ⟨f, ⟨a, cap, rfl, hc1, hc2, hf⟩, hfi⟩ := hu
  obtain ⟨g, ⟨a2, cap2, rfl, hd1, hd2, hg⟩, hgi⟩ := hv
  have HF : Hid (∀ wr, Below w.heap.size w wr → ∀ j, j < xs.length → ∃ b off, a = some ⟨b, off, none⟩ ∧ wr.cell? ⟨b, off + j, none⟩ = some (f j) ∧ IntsS S wr (f j) (xs.getD j [])) := fun wr hb j hj => by
    obtain ⟨b, off, e, _, hc⟩ := hf j hj
    obtain ⟨_, hz, _⟩ := cells_of_cell hc
    exact ⟨b, off, e, (hb.cell (p := ⟨b, off + j, none⟩) (lt_heap hz)).trans hc, (hfi j hj).later hb⟩
  have HG : Hid (∀ wr, Below w.heap.size w wr → ∀ j, j < ys.length → ∃ b off, a2 = some ⟨b, off, none⟩ ∧ wr.cell? ⟨b, off + j, none⟩ = some (g j) ∧ IntsS S wr (g j) (ys.getD j [])) := fun wr hb j hj => by
    obtain ⟨b, off, e, _, hc⟩ := hg j hj
    obtain ⟨_, hz, _⟩ := cells_of_cell hc
    exact ⟨b, off, e, (hb.cell (p := ⟨b, off + j, none⟩) (lt_heap hz)).trans hc, (hgi j hj).later hb⟩
  clear hf hg hfi hgi
  by_cases hl : xs.length = ys.length
  · have hn : ((xs.length : Int) != (ys.length : Int)) = false := by simp [hl]
    have HE := hide hl
    clear hl
    go_enter Try.func16, Try.ntmps16
    go_wp2_with fail
    go_loopw [5] (fun i wr => SLRel w xs ys i wr) (fun i _ => xs.length - (intOf i).toNat)
    case atStart => exact ⟨0, Nat.zero_le _, rfl, rfl, Below.refl _ _⟩
    case round =>
      obtain ⟨k, hk, rfl, ht, hb⟩ := hrel
      have HT := hide ht
      have HB := hide hb
      clear ht
      by_cases hlt : k < xs.length
      · have hlt2 : k < ys.length := by have := unhide HE; omega
        obtain ⟨b1, o1, rfl, hx, hxi⟩ := unhide HF wr hb k hlt
        obtain ⟨b2, o2, rfl, hy, hyi⟩ := unhide HG wr hb k hlt2
        have e1 : xs.getD k [] = xs[k] := by simp [List.getD, List.getElem?_eq_getElem hlt]
        have e2 : ys.getD k [] = ys[k] := by simp [List.getD, List.getElem?_eq_getElem hlt2]
        rw [e1] at hxi
        rw [e2] at hyi
        have hs : Calls Try.prog 24 #[f k, g k] wr.drew fun e w' => e = .returned (.bool (sameB xs[k] ys[k])) ∧ Below wr.heap.size wr w' :=
          (same_any wr.heap.size wr.drew _ _ _ _ (Nat.le_refl _) hxi.ints hyi.ints).mono fun e w' ⟨h1, h2⟩ => ⟨h1, ((Below.refl _ wr).drew).trans h2⟩
        obtain ⟨ua, uc, eu, _⟩ := hxi
        obtain ⟨va, vc, ev, _⟩ := hyi
        obtain ⟨x, hx1⟩ : ∃ x, x = xs[k] := ⟨_, rfl⟩
        obtain ⟨y, hy1⟩ : ∃ y, y = ys[k] := ⟨_, rfl⟩
        rw [← hx1] at hs eu
        rw [← hy1] at hs ev
        have HX := hide hx1
        have HY := hide hy1
        rw [eu] at hs hx
        rw [ev] at hs hy
        have mixed : Try.prog.follows .mixedOrders = true := by kernel_rfl
        clear hx1 hy1 hb eu ev e1 e2
        cases hxy : sameB x y with
        | true =>
          rw [hxy] at hs
          have hxe : x = y := of_decide_eq_true hxy
          have HN := hide (sameL_next hlt hlt2 (unhide HT) (by rw [← unhide HX, ← unhide HY]; exact hxe))
          clear hxy hxe
          go_wp2_with fail
          go_region_with (go_at_call 24; refine hs.mono ?_; clear hs; rintro e w4 ⟨rfl, hb4⟩; have HB4 := hide hb4; clear hb4)
          all_goals
            go_wp2_with fail
            go_roundw
            case rel => exact ⟨k + 1, by omega, by go_num, unhide HN, (unhide HB).trans ((unhide HB4).mono (unhide HB).size)⟩
            case measure => simp [intOf]; omega
        | false =>
          rw [hxy] at hs
          have H : Hid (sameLB xs ys = false) := decide_eq_false (fun e => of_decide_eq_false hxy (by rw [unhide HX, unhide HY]; simp [e]))
          clear hxy
          go_wp2_with fail
          go_region_with (go_at_call 24; refine hs.mono ?_; clear hs; rintro e w4 ⟨rfl, hb4⟩; have HB4 := hide hb4; clear hb4)
          all_goals
            go_wp2_with fail
            go_ret
            exact ⟨ret_bool (unhide H).symm, (unhide HB).trans ((unhide HB4).mono (unhide HB).size)⟩
      · have hk2 : k = xs.length := by omega
        subst hk2
        have H : Hid (sameLB xs ys = true) := decide_eq_true (by have := unhide HT; rw [List.take_length, List.take_of_length_le (by have := unhide HE; omega)] at this; exact this)
        clear hb
        go_wp2_with fail
        go_ret
        exact ⟨ret_bool (unhide H).symm, unhide HB⟩
  · have hn : ((xs.length : Int) != (ys.length : Int)) = true := by simp; omega
    have H : Hid (sameLB xs ys = false) := decide_eq_false (fun e => hl (by rw [e]))
    clear hl
    go_enter Try.func16, Try.ntmps16
    go_wp2_with fail
    go_ret
    exact ⟨ret_bool (unhide H).symm, Below.refl _ _⟩
end Go.Proofs.Ytmjlhmhkbfnccaa
