/- Walks of unlike and of the document's Least. -/
import Derived.Test.YtclialdbaclpoaaTryW
import Derived.Test.YtclialdbaclpoaaAlive
namespace Go.Proofs.Ytclialdbaclpoaa
open Go.RowKit Go.Shelf Go.Maps

/-- The searches but nought, each once. -/
def unL : List Int → List Int → List Int
  | out, [] => out
  | out, x :: r => unL (if x ≠ 0 ∧ x ∉ out then out ++ [x] else out) r
theorem unL_snoc (out l : List Int) (x : Int) : unL out (l ++ [x]) = if x ≠ 0 ∧ x ∉ unL out l then unL out l ++ [x] else unL out l := by
  induction l generalizing out with
  | nil => rfl
  | cons a r ih => exact ih _
theorem unL_mem (l : List Int) : (unL [] l).Nodup ∧ (∀ x, x ∈ unL [] l ↔ x ≠ 0 ∧ x ∈ l) ∧ (unL [] l).length ≤ l.length := by
  have : ∀ (n : Nat) (l : List Int), l.length = n → (unL [] l).Nodup ∧ (∀ x, x ∈ unL [] l ↔ x ≠ 0 ∧ x ∈ l) ∧ (unL [] l).length ≤ l.length := by
    intro n
    induction n with
    | zero =>
      intro l hl
      have : l = [] := List.eq_nil_of_length_eq_zero hl
      subst this
      exact ⟨List.nodup_nil, fun x => by simp [unL], Nat.le_refl _⟩
    | succ n ih =>
      intro l hl
      rcases List.eq_nil_or_concat l with e | ⟨m, x, e⟩
      · subst e; simp at hl
      · rw [List.concat_eq_append] at e
        subst e
        obtain ⟨h1, h2, h3⟩ := ih m (by simpa using hl)
        rw [unL_snoc]
        by_cases hx : x ≠ 0 ∧ x ∉ unL [] m
        · rw [if_pos hx]
          refine ⟨?_, fun y => ?_, by simp; omega⟩
          · rw [List.nodup_append]
            refine ⟨h1, by simp, fun a ha b hb e => ?_⟩
            obtain rfl : b = x := by simpa using hb
            exact hx.2 (e ▸ ha)
          · rw [List.mem_append, List.mem_append, List.mem_singleton, h2]
            constructor
            · rintro (⟨a, b⟩ | e)
              · exact ⟨a, .inl b⟩
              · exact ⟨e ▸ hx.1, .inr e⟩
            · rintro ⟨a, b | b⟩
              · exact .inl ⟨a, b⟩
              · exact .inr b
        · rw [if_neg hx]
          refine ⟨h1, fun y => ?_, by simp; omega⟩
          rw [List.mem_append, List.mem_singleton, h2]
          constructor
          · rintro ⟨a, b⟩
            exact ⟨a, .inl b⟩
          · rintro ⟨a, b | b⟩
            · exact ⟨a, b⟩
            · refine (h2 y).1 (Classical.byContradiction fun g => hx ⟨b ▸ a, b ▸ g⟩)
  exact this l.length l rfl
theorem take_snoc {l : List Int} {k : Nat} (hk : k < l.length) : l.take (k + 1) = l.take k ++ [l[k]] := List.take_succ_eq_append_getElem hk
def UnR (l : List Int) (B : Nat) (w : World) (ov i : Value) (wr : World) : Prop := ∃ k : Nat, k ≤ l.length ∧ i = .int .i64 (k : Int) ∧ OwnI B wr ov (unL [] (l.take k)) ∧ Below B w wr

set_option maxRecDepth 100000 in
set_option maxHeartbeats 4000000 in
theorem unlike_any (w : World) (v : Value) (l : List Int) (h : Ints w.heap.size w v l) (hn : l.length ≤ 256) :
    Calls Try.prog 21 #[v] w fun e w' => ∃ r, e = .returned r ∧ OwnI w.heap.size w' r (unL [] l) ∧ Below w.heap.size w w' := by
  have HI := hide h
  obtain ⟨a, cap, rfl, hc1, hc2, _⟩ := h
  have HS : Hid (UnR l w.heap.size w (.slice none 0 0) (.int .i64 0) w) := ⟨0, Nat.zero_le _, rfl, OwnI.nil _ _, Below.refl _ _⟩
  go_enter Try.func21, Try.ntmps21
  go_wp2_with fail
  go_loopw [3, 4] (fun ov i wr => UnR l w.heap.size w ov i wr) (fun _ i _ => l.length - (intOf i).toNat)
  case atStart => exact unhide HS
  case round =>
    obtain ⟨k, hk, rfl, hown, hbl⟩ := hrel
    obtain ⟨va, vn, vc, eo⟩ : ∃ va vn vc, u3 = .slice va vn vc := by
      rcases hown.2 with ⟨e, _⟩ | ⟨g, cap, cur, e, _⟩
      · exact ⟨_, _, _, e⟩
      · exact ⟨_, _, _, e⟩
    by_cases hkl : k < l.length
    · obtain ⟨b, off, rfl, hc⟩ := ((unhide HI).below hbl (Nat.le_refl _)).nat hkl
      obtain ⟨x, hx⟩ : ∃ x, x = l[k] := ⟨_, rfl⟩
      rw [← hx] at hc
      have hsn := unL_snoc [] (l.take k) x
      rw [hx, ← take_snoc hkl, ← hx] at hsn
      have hul := (unL_mem (l.take k)).2.2
      rw [List.length_take] at hul
      have hbs := hbl.size
      by_cases hx0 : x = 0
      · have HN : Hid (UnR l w.heap.size w u3 (.int .i64 ((k + 1 : Nat) : Int)) wr) := ⟨k + 1, by omega, rfl, by rw [hsn, if_neg (fun g => g.1 hx0)]; exact hown, hbl⟩
        rw [hx0] at hc
        subst eo
        clear hown hbl hsn hx hx0
        go_wp2_with fail
        go_roundw
        case rel =>
          have := unhide HN
          rw [Int.natCast_add] at this
          exact this
        case measure => simp [intOf]; omega
      · have hx1 : (x != 0) = true := by simpa using hx0
        have hha := has_any wr.heap.size wr u3 (unL [] (l.take k)) hown.intsS.ints x
        cases hhb : hasB (unL [] (l.take k)) x with
        | true =>
          have hm : x ∈ unL [] (l.take k) := of_decide_eq_true hhb
          rw [hhb] at hha
          have HN : Hid (UnR l w.heap.size w u3 (.int .i64 ((k + 1 : Nat) : Int)) wr) := ⟨k + 1, by omega, rfl, by rw [hsn, if_neg (fun g => g.2 hm)]; exact hown, hbl⟩
          subst eo
          clear hown hbl hsn hx hx0 hm hhb
          go_wp2_with fail
          refine hha.mono ?_
          clear hha
          rintro e w5 ⟨rfl, hw5⟩
          subst hw5
          go_wp2_with fail
          go_roundw
          case rel =>
            have := unhide HN
            rw [Int.natCast_add] at this
            exact this
          case measure => simp [intOf]; omega
        | false =>
          have hm : x ∉ unL [] (l.take k) := of_decide_eq_false hhb
          rw [hhb] at hha
          obtain ⟨r7, w7, hrun7, hown7, hK7, hr7⟩ := app1_run wr u3 _ x hown hbs (by omega)
          have b7 : Below w.heap.size w w7 := hbl.trans (hK7.below hbs (fun b e => (hown.block b e).1))
          have HN : Hid (UnR l w.heap.size w r7 (.int .i64 ((k + 1 : Nat) : Int)) w7) := ⟨k + 1, by omega, rfl, by rw [hsn, if_pos ⟨hx0, hm⟩]; exact hown7, b7⟩
          have HRUN7 := hide hrun7
          subst eo
          clear hown hbl hsn hx hx0 hm hhb hrun7 hown7 hK7 hr7 b7
          go_wp2_with fail
          refine hha.mono ?_
          clear hha
          rintro e w5 ⟨rfl, hw5⟩
          subst hw5
          go_wp2_with (at_builtin; refine wpList_append_run _ rfl _ _ 22 rfl _ _ rfl rfl _ _ (unhide HRUN7) ?_)
          go_roundw
          case rel =>
            have := unhide HN
            rw [Int.natCast_add] at this
            exact this
          case measure => simp [intOf]; omega
    · have hk2 : k = l.length := by omega
      rw [hk2, List.take_length] at hown
      have HE := hide (And.intro hown hbl)
      subst eo
      clear hown hbl hk2
      go_wp2_with fail
      go_ret
      exact ⟨_, rfl, (unhide HE).1, (unhide HE).2⟩
end Go.Proofs.Ytclialdbaclpoaa
