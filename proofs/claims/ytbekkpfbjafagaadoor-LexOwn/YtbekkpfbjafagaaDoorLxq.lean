/- Walk of the document's Same. -/
import Derived.Test.YtbekkpfbjafagaaDoorRisesw
namespace Go.Proofs.YtbekkpfbjafagaaDoor
open Go.RowKit

/-- A slice of tokens, wherever it lies. -/
def SlAt (w : World) (v : Value) (toks : List Tok) : Prop := ∃ ao cap, v = .slice ao toks.length cap ∧ toks.length ≤ cap ∧ cap ≤ maxLen ∧ (toks = [] ∨ ∃ g, ao = some ⟨g, 0, none⟩ ∧ RowAt w g cap toks)
theorem slAt_of {w : World} {B : Nat} {v : Value} {toks : List Tok} (h : w.ownsRow B 32 4 v toks.length (tokCells toks)) : SlAt w v toks := by
  rcases row_of h with ⟨rfl, rfl⟩ | ⟨g, cap, rfl, hr⟩
  · exact ⟨none, 0, rfl, Nat.le_refl _, Nat.zero_le _, .inl rfl⟩
  · exact ⟨_, cap, rfl, hr.le, hr.cm, .inr ⟨g, rfl, hr⟩⟩
theorem SlAt.later {w w' : World} {v : Value} {toks : List Tok} (h : SlAt w v toks) (hb : Below w.heap.size w w') : SlAt w' v toks := by
  obtain ⟨ao, cap, hv, h1, h2, h3⟩ := h
  refine ⟨ao, cap, hv, h1, h2, ?_⟩
  rcases h3 with h | ⟨g, hg, hr⟩
  · exact .inl h
  · exact .inr ⟨g, hg, hr.later hb⟩
def Alike (p : Bool) (x y : Tok) : Prop := x.kind = y.kind ∧ x.text = y.text ∧ x.num = y.num ∧ (p = true → x.at_ = y.at_)

set_option maxRecDepth 100000 in
set_option maxHeartbeats 4000000 in
theorem same_any (p : Bool) (v1 v2 : Value) (l1 l2 : List Tok) (w : World) (h1 : SlAt w v1 l1) (h2 : SlAt w v2 l2) (hl : l1.length = l2.length) (ha : ∀ (i : Nat) (x y : Tok), l1[i]? = some x → l2[i]? = some y → Alike p x y) :
    Calls Tryd.prog 11 #[v1, v2, .bool p] w fun e w' => e = .returned (.bool true) ∧ Below w.heap.size w w' := by
  obtain ⟨a1, c1, rfl, l1c, m1, r1⟩ := h1
  obtain ⟨a2, c2, rfl, l2c, m2, r2⟩ := h2
  obtain ⟨n, hn⟩ : ∃ n, l1.length = n := ⟨_, rfl⟩
  have hn2 : l2.length = n := by omega
  rw [hn] at l1c ⊢
  rw [hn2] at l2c ⊢
  unfold maxLen at m1 m2
  have HN := hide (show l1.length = n ∧ l2.length = n from ⟨hn, hn2⟩)
  have HR1 := hide r1
  have HR2 := hide r2
  clear r1 r2 hn hn2 hl
  go_enter Tryd.func11, Tryd.ntmps11
  go_wp2_with fail
  go_loopw [7] (fun i wr => ∃ j : Nat, i = .int .i64 (j : Int) ∧ j ≤ n ∧ Hid (Below w.heap.size w wr)) (fun i _ => n - (intOf i).toNat)
  case atStart => exact ⟨0, rfl, Nat.zero_le _, hide (Below.refl _ _)⟩
  case round =>
    obtain ⟨j, rfl, hj, HB⟩ := hrel
    by_cases hlt : j < n
    · obtain ⟨x, hx⟩ : ∃ x, l1[j]? = some x := ⟨l1[j]'(by rw [(unhide HN).1]; exact hlt), List.getElem?_eq_getElem _⟩
      obtain ⟨y, hy⟩ : ∃ y, l2[j]? = some y := ⟨l2[j]'(by rw [(unhide HN).2]; exact hlt), List.getElem?_eq_getElem _⟩
      obtain ⟨g1, rfl, hr1⟩ : ∃ g, a1 = some ⟨g, 0, none⟩ ∧ RowAt w g c1 l1 := by
        rcases unhide HR1 with h | h
        · rw [h] at hx; simp at hx
        · exact h
      obtain ⟨g2, rfl, hr2⟩ : ∃ g, a2 = some ⟨g, 0, none⟩ ∧ RowAt w g c2 l2 := by
        rcases unhide HR2 with h | h
        · rw [h] at hy; simp at hy
        · exact h
      obtain ⟨e1, e2, e3, e4⟩ := ha j x y hx hy
      have hb := unhide HB
      obtain ⟨x0, x1, x2, x3⟩ := (hr1.later hb).cells j x hx
      obtain ⟨y0, y1, y2, y3⟩ := (hr2.later hb).cells j y hy
      have lt1 := (hr1.later hb).lt
      have lt2 := (hr2.later hb).lt
      rw [← e1] at y0
      rw [← e2] at y1
      rw [← e3] at y2
      clear hr1 hr2 hb hx hy e1 e2 e3 HR1 HR2 ha
      cases p with
      | true =>
        have e5 := e4 rfl
        rw [← e5] at y3
        clear e4 e5
        go_wp2_with fail
        go_region
        all_goals
          go_wp2_with fail
          go_roundw
          case rel => exact ⟨j + 1, by go_num, by omega, hide (by have hb := unhide HB; exact ((hb.alloc hb.size _).alloc (by simp; have := hb.size; omega) _).drew)⟩
          case measure => simp [intOf]; omega
      | false =>
        clear e4
        go_wp2_with fail
        go_region
        all_goals
          go_wp2_with fail
          go_roundw
          case rel => exact ⟨j + 1, by go_num, by omega, hide (by have hb := unhide HB; exact ((hb.alloc hb.size _).alloc (by simp; have := hb.size; omega) _).drew)⟩
          case measure => simp [intOf]; omega
    · have hb := unhide HB
      go_wp2_with fail
      go_ret
      exact ⟨rfl, hb⟩
end Go.Proofs.YtbekkpfbjafagaaDoor
