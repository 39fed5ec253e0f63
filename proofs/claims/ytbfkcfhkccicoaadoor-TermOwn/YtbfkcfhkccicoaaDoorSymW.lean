/- Walks of package sym: what each call answers, and what it leaves in memory. -/
import Derived.Test.YtbfkcfhkccicoaaDoorSymM
import Derived.Test.YtbfkcfhkccicoaaDoorShelfB
import Derived.Maps.OwnSet
namespace Go.Proofs.YtbfkcfhkccicoaaDoor.Sym
open Go.RowKit Go.Maps Go.WideMaps

theorem law9 : Keyed Tryd.prog 9 := string_keyed Tryd.underlying9
theorem size_alloc2 (w : World) (o : Obj) : (w.alloc o).heap.size = w.heap.size + 1 := by simp

theorem new_any (w : World) : Calls Tryd.prog 15 #[] w fun e w' => e = .returned (.pointer (some ⟨w.heap.size + 1 + 1, 0, none⟩)) ∧
    Tab w' w.heap.size (w.heap.size + 1 + 1) (w.heap.size + 1) w.heap.size none 0 [] ∧ Below w.heap.size w w' := by
  have hmm := @run_makeMap Tryd.prog
  go_enter Tryd.func15, Tryd.ntmps15
  go_wp2
  go_ret
  have b0 : Below w.heap.size w (((w.alloc (.map #[] 0)).alloc (.cells #[.slice none 0 0, .map (some w.heap.size)] 66)).alloc (.cells #[.pointer (some ⟨w.heap.size + 1, 0, none⟩)] 68)) :=
    (((Below.refl _ w).alloc (Nat.le_refl _) _).alloc (by simp) _).alloc (by simp; omega) _
  refine ⟨rfl, ?_, b0⟩
  have hm := World.ownsMap_made w Tryd.prog 9 (plainElem (H := Unit) Tryd.prog 3)
  exact ⟨by simpa using World.alloc_heap_new ((w.alloc (.map #[] 0)).alloc (.cells #[.slice none 0 0, .map (some w.heap.size)] 66)) (.cells #[.pointer (some ⟨w.heap.size + 1, 0, none⟩)] 68),
    (Below.heap_alloc _ _ _ (by simp)).trans (by simpa using World.alloc_heap_new (w.alloc (.map #[] 0)) (.cells #[.slice none 0 0, .map (some w.heap.size)] 66)),
    World.ownsRow_nil _ _ _ _, by simp, ⟨_, (hm.alloc _).alloc _, ties_empty⟩, by omega, by omega, by simp; omega⟩

section
variable {W : World} {base tb hb mb : Nat} {a : Option Addr} {cap : Nat} {xs : List ByteArray}

theorem made_any (h : Tab W base tb hb mb a cap xs) : Calls Tryd.prog 50 #[.pointer (some ⟨tb, 0, none⟩)] W fun e w' => e = .returned (.bool true) ∧ w' = W := by
  have c0 := h.c0
  go_enter Tryd.func50, Tryd.ntmps50
  go_wp2
  go_ret
  exact ⟨rfl, rfl⟩

theorem len_any (h : Tab W base tb hb mb a cap xs) : Calls Tryd.prog 67 #[.pointer (some ⟨tb, 0, none⟩)] W fun e w' => e = .returned (.int .i64 (xs.length : Int)) ∧ w' = W := by
  have c0 := h.c0
  have c1 := h.c1
  go_enter Tryd.func67, Tryd.ntmps67
  go_wp2_with (go_at_call 50; refine (made_any h).mono ?_; rintro e w' ⟨rfl, rfl⟩)
  go_ret
  exact ⟨rfl, rfl⟩

theorem get_any (h : Tab W base tb hb mb a cap xs) (s : ByteArray) (hs : s.size ≤ 281474976710656) :
    Calls Tryd.prog 64 #[.pointer (some ⟨tb, 0, none⟩), .string s] W fun e w' => e = .returned (.tuple #[.int .i64 (num xs s : Int), .bool (there xs s)]) ∧ w' = W := by
  have c0 := h.c0
  have c2 := h.c2
  obtain ⟨D, hm, hT⟩ := h.map
  have hkey : keyOf Tryd.prog 9 (.string s) = some (keyL s) := keyOf_string_mk Tryd.underlying9 (by unfold maxLen; omega)
  go_enter Tryd.func64, Tryd.ntmps64
  go_wp2_with (first
    | (go_at_call 50; refine (made_any h).mono ?_; rintro e w' ⟨rfl, rfl⟩)
    | (at_lookup; refine wpList_lookup_own_ok_int _ rfl _ _ 64 rfl 9 3 .i64 law9 Tryd.underlying64 Tryd.underlying3 (Tryd.zeroValue3 _) mb _ D rfl hm _ _ rfl hkey ?_; intro c hat hwc)
    | go_in)
  go_ret2
  rw [(hT.2 s).2] at hat
  have : c = (num xs s : Int) := by simpa using hat.symm
  subst this
  rw [(hT.2 s).1]
  exact ⟨rfl, rfl⟩

/-- The text with a number, where there is one. -/
def textAt (xs : List ByteArray) (n : Int) : ByteArray := if 0 ≤ n then xs[n.toNat]?.getD ⟨#[]⟩ else ⟨#[]⟩
def isNum (xs : List ByteArray) (n : Int) : Bool := decide (0 ≤ n) && decide (n < (xs.length : Int))

theorem textAt_out {n : Int} (h : isNum xs n = false) : textAt xs n = ⟨#[]⟩ := by
  unfold textAt
  split
  · have : ¬ n < (xs.length : Int) := fun e => by simp [isNum] at h; omega
    rw [List.getElem?_eq_none (by omega)]; rfl
  · rfl

theorem text_any (h : Tab W base tb hb mb a cap xs) (n : Int) :
    Calls Tryd.prog 55 #[.pointer (some ⟨tb, 0, none⟩), .int .i64 n] W fun e w' => e = .returned (.tuple #[.string (textAt xs n), .bool (isNum xs n)]) ∧ w' = W := by
  have c0 := h.c0
  have c1 := h.c1
  by_cases h0 : n < 0
  · have e1 : isNum xs n = false := by simp [isNum]; omega
    rw [textAt_out e1, e1]
    go_enter Tryd.func55, Tryd.ntmps55
    go_wp2_with (go_at_call 67; refine (len_any h).mono ?_; rintro e w' ⟨rfl, rfl⟩)
    go_ret2
    exact ⟨rfl, rfl⟩
  · by_cases h1 : (xs.length : Int) ≤ n
    · have e1 : isNum xs n = false := by simp [isNum]; omega
      rw [textAt_out e1, e1]
      go_enter Tryd.func55, Tryd.ntmps55
      go_wp2_with (go_at_call 67; refine (len_any h).mono ?_; rintro e w' ⟨rfl, rfl⟩)
      go_ret2
      exact ⟨rfl, rfl⟩
    · obtain ⟨k, rfl⟩ : ∃ k : Nat, n = (k : Int) := ⟨n.toNat, by omega⟩
      have hk : k < xs.length := by omega
      have e1 : isNum xs (k : Int) = true := by simp [isNum]; omega
      have e2 : textAt xs (k : Int) = xs[k] := by simp [textAt, hk]
      obtain ⟨g, rfl, hc⟩ := h.row.reads k xs[k] (by simp [hk])
      rw [e1, e2]
      have hk2 : (k : Int) < (xs.length : Int) := by omega
      clear e1 e2
      generalize xs[k] = t at hc ⊢
      go_enter Tryd.func55, Tryd.ntmps55
      go_wp2_with (go_at_call 67; refine (len_any h).mono ?_; rintro e w' ⟨rfl, rfl⟩)
      go_ret2
      exact ⟨rfl, rfl⟩

theorem clone_any (s : ByteArray) (w : World) (hs : s.size ≤ 281474976710656) : Calls Tryd.prog 63 #[.string s] w fun e w' => e = .returned (.string s) ∧ Below w.heap.size w w' := by
  go_enter Tryd.func63, Tryd.ntmps63
  go_wp2_with (go_at_call 70; refine (Tryd.stringslite_Clone s _ hs).mono ?_; rintro e w' ⟨rfl, hb⟩)
  go_ret
  exact ⟨rfl, hb⟩

set_option maxHeartbeats 1000000 in
theorem add_any (h : Tab W base tb hb mb a cap xs) (s : ByteArray) (hs : s.size ≤ 281474976710656) (hn : there xs s = false) (hl : xs.length < 16384) :
    Calls Tryd.prog 51 #[.pointer (some ⟨hb, 0, none⟩), .string s] W fun e w' => e = .returned (.int .i64 (xs.length : Int)) ∧ ∃ a' cap', Left W w' base tb hb mb a xs (xs ++ [s]) a' cap' := by
  have hkey : keyOf Tryd.prog 9 (.string s) = some (keyL s) := keyOf_string_mk Tryd.underlying9 (by unfold maxLen; omega)
  go_enter Tryd.func51, Tryd.ntmps51
  go_wp2_with fail
  refine (clone_any s _ hs).mono ?_
  rintro e w1 ⟨rfl, hb1⟩
  have h1 := h.later hb1
  have c1 := h1.c1
  have h2 : Tab (w1.alloc (.cells #[.string s] 9)) base tb hb mb a cap xs := h1.later ((Below.refl _ w1).alloc (Nat.le_refl _) _)
  obtain ⟨D, hm, hT⟩ := h2.map
  have hbU : Below W.heap.size W (w1.alloc (.cells #[.string s] 9)) := hb1.alloc hb1.size _
  have hwl : (Lit.int .i64 (xs.length : Int)).wf = true := WalkArith.wf_i64 (by omega)
  go_wp2_with (first
    | (at_builtin; refine wpList_append_text _ rfl _ _ rfl base a cap xs s ⟨w1.heap.size, 0, none⟩ rfl h2.row rfl (by simp [Addr.add]) (by omega) h2.from_.2.2 ?_; intro a' cap' w2 hrow hgrow hat
       have hheld2 : w2.heap[hb]? = some (.cells #[.slice a xs.length cap, .map (some mb)] 66 (0, 0)) := (hgrow.block hb (lt_of_heap h2.held) (fun e => (h2.row_ne hb e.symm).2.1 rfl)).trans h2.held
       have hc2 : w2.cell? ⟨hb, 0, none⟩ = some (.slice a xs.length cap) := by simp [World.cell?, hheld2]
       have hf2 : w2.frozen? ⟨hb, 0, none⟩ = false := by simp [World.frozen?, hheld2]
       have hc3 : (w2.setCell ⟨hb, 0, none⟩ (.slice a' (xs.length + 1) cap')).cell? ⟨hb, 1, none⟩ = some (.map (some mb)) := by simp [World.cell?, World.setCell, Array.getElem?_modify, hheld2]
       have hm3 := (hm.kept hgrow (fun e => (h2.row_ne mb e.symm).2.2 rfl)).setCell (a := ⟨hb, 0, none⟩) h2.hb_mb.symm (.slice a' (xs.length + 1) cap')
       clear hheld2)
    | (at_mapUpdate; refine wpList_mapUpdate_own _ rfl _ _ _ 64 rfl 9 3 law9 Tryd.underlying64 _ mb _ D rfl hm3 (by unfold maxLen; omega) _ _ _ rfl rfl hkey _ [] (plainElem_int Tryd.underlying3 hwl) ?_; intro w4 hm4 hg4)
    | go_in)
  go_ret
  exact ⟨rfl, a', cap', left_of h2 hbU hrow hgrow hat hm4 hg4 (hT.snoc hn) hl⟩

set_option maxRecDepth 100000 in
set_option maxHeartbeats 1000000 in
theorem put_any (hTab : Tab W base tb hb mb a cap xs) (s : ByteArray) (hs : s.size ≤ 281474976710656) :
    Calls Tryd.prog 32 #[.pointer (some ⟨tb, 0, none⟩), .string s] W fun e w' => e = .returned (.tuple #[.int .i64 (ansN xs s : Int), .int .i64 (ansE xs s)]) ∧ ∃ a' cap', Left W w' base tb hb mb a xs (put xs s) a' cap' := by
  have c0 := hTab.c0
  have c1 := hTab.c1
  have c2 := hTab.c2
  have hl := hTab.len
  obtain ⟨D, hm, hT⟩ := hTab.map
  have hkey : keyOf Tryd.prog 9 (.string s) = some (keyL s) := keyOf_string_mk Tryd.underlying9 (by unfold maxLen; omega)
  have hmade := made_any hTab
  have hadd : there xs s = false → xs.length < 16384 → _ := add_any hTab s hs
  have hh := (hT.2 s).1
  have hv := (hT.2 s).2
  unfold ansN ansE put
  cases ht : there xs s with
  | true =>
    rw [ht] at hh
    have HV : Hid (DataW.atKey D (keyL s) (.lit (.int .i64 0)) = .lit (.int .i64 (num xs s))) := hv
    clear hv hadd
    go_enter Tryd.func32, Tryd.ntmps32
    go_wp2_with (first
      | (go_at_call 50; refine hmade.mono ?_; rintro e w' ⟨rfl, rfl⟩)
      | (at_lookup; refine wpList_lookup_own_ok_int _ rfl _ _ 64 rfl 9 3 .i64 law9 Tryd.underlying64 Tryd.underlying3 (Tryd.zeroValue3 _) mb _ D rfl hm _ _ rfl hkey ?_; intro c hat hwc
         obtain rfl : c = (num xs s : Int) := by (have := hat.symm.trans HV.out; simpa using this)
         clear hat)
      | go_in)
    go_ret2
    exact ⟨rfl, a, cap, Left.refl hTab⟩
  | false =>
    rw [ht] at hh
    by_cases hf : 16384 ≤ xs.length
    · obtain he : xs.length = 16384 := by omega
      have hi : (16384 : Int) ≤ (xs.length : Int) := by omega
      clear hadd hv
      simp only [hf, if_true, Bool.false_eq_true, if_false]
      go_enter Tryd.func32, Tryd.ntmps32
      go_wp2_with (first
        | (go_at_call 50; refine hmade.mono ?_; rintro e w' ⟨rfl, rfl⟩)
        | (at_lookup; refine wpList_lookup_own_ok_int _ rfl _ _ 64 rfl 9 3 .i64 law9 Tryd.underlying64 Tryd.underlying3 (Tryd.zeroValue3 _) mb _ D rfl hm _ _ rfl hkey ?_; intro c hat hwc; clear hat)
        | go_in)
      go_ret2
      exact ⟨rfl, a, cap, Left.refl hTab⟩
    · have hl2 : xs.length < 16384 := by omega
      have hi : (xs.length : Int) < 16384 := by omega
      have hadd2 := hadd ht hl2
      clear hadd hv
      simp only [hf, Bool.false_eq_true, if_false]
      go_enter Tryd.func32, Tryd.ntmps32
      go_wp2_with (first
        | (go_at_call 50; refine hmade.mono ?_; rintro e w' ⟨rfl, rfl⟩)
        | (at_lookup; refine wpList_lookup_own_ok_int _ rfl _ _ 64 rfl 9 3 .i64 law9 Tryd.underlying64 Tryd.underlying3 (Tryd.zeroValue3 _) mb _ D rfl hm _ _ rfl hkey ?_; intro c hat hwc; clear hat)
        | (go_at_call 51; refine hadd2.mono ?_; rintro e w' ⟨rfl, hw⟩)
        | go_in)
      go_ret2
      exact ⟨rfl, hw⟩
end
end Go.Proofs.YtbfkcfhkccicoaaDoor.Sym
