/- The document's Range. -/
import Derived.Test.YtmjlhmhkbfnccaaRefsE
import Derived.Test.YtmjlhmhkbfnccaaQuietH
namespace Go.Proofs.Ytmjlhmhkbfnccaa
open Go.RowKit Go.Shelf Go.Maps

theorem filter_idx (p : List Int → Bool) (xs : List (List Int)) : xs.filter p = ((List.range xs.length).filter (fun j => p (xs.getD j []))).map (fun j => xs.getD j []) := by
  have e : (List.range xs.length).map (fun j => xs.getD j []) = xs := by
    apply List.ext_getElem
    · simp
    · intro i h1 h2
      simp [List.getD, h2]
  have h := List.filter_map (f := fun j => xs.getD j []) (p := p) (l := List.range xs.length)
  rw [e] at h
  exact h
def idxL (p : List Int → Bool) (xs : List (List Int)) (k : Nat) : List Nat := (List.range k).filter (fun j => p (xs.getD j []))
theorem idxL_yes {p : List Int → Bool} {xs : List (List Int)} {k : Nat} (h : p (xs.getD k []) = true) : idxL p xs (k + 1) = idxL p xs k ++ [k] := by
  unfold idxL
  rw [List.range_succ, List.filter_append, List.filter_cons, if_pos h, List.filter_nil]
theorem idxL_no {p : List Int → Bool} {xs : List (List Int)} {k : Nat} (h : p (xs.getD k []) = false) : idxL p xs (k + 1) = idxL p xs k := by
  unfold idxL
  rw [List.range_succ, List.filter_append, List.filter_cons, if_neg (by simp only [h]; decide), List.filter_nil, List.append_nil]
theorem idxL_len (p : List Int → Bool) (xs : List (List Int)) (k : Nat) : (idxL p xs k).length ≤ k := by
  have := List.length_filter_le (fun j => p (xs.getD j [])) (List.range k)
  simpa [idxL] using this
def RgR (p : List Int → Bool) (xs : List (List Int)) (f : Nat → Value) (w : World) (ov i : Value) (wr : World) : Prop := ∃ k : Nat, k ≤ xs.length ∧ i = .int .i64 k ∧ Below w.heap.size w wr ∧ wr.ownsRow w.heap.size 22 1 ov (idxL p xs k).length ((idxL p xs k).map f)

set_option maxRecDepth 100000 in
set_option maxHeartbeats 4000000 in
theorem rrange_at (S : Nat → Prop) (w : World) (rb d : Nat) (cs : Array Value) (o x : List Int) (n : Int) (xs : List (List Int)) (xv : Value) (h : RAt S w rb d cs o xs) (hx : Ints w.heap.size w xv x) (hN : xs.length ≤ 1024) :
    Calls Try.prog 29 #[.pointer (some ⟨rb, d, none⟩), .int .i64 n, xv] w fun e w' => ∃ rv, e = .returned rv ∧ ListAt (fun _ => True) w' rv (xs.filter (fun y => headA o n y x)) ∧ Below w.heap.size w w' := by
  obtain ⟨p, hp⟩ : ∃ p : List Int → Bool, p = fun y => headA o n y x := ⟨_, rfl⟩
  rw [← hp]
  obtain ⟨ov, tv, hh, hov, ⟨f, ⟨a, cap, rfl, hc1, hc2, hf⟩, hfi⟩, _⟩ := h.cells
  obtain ⟨oa, oc, rfl, _⟩ := id hov
  obtain ⟨xa, xc, rfl, _⟩ := id hx
  have hlt0 := hh.lt
  have CELL : Hid (∀ wr, Below w.heap.size w wr → wr.cell? ⟨rb, d, none⟩ = some (.slice oa o.length oc) ∧ wr.cell? ⟨rb, d + 1, none⟩ = some (.slice a xs.length cap)) := fun wr hb => by
    obtain ⟨c0, c1, _⟩ := At2.cells (hh.later hb)
    exact ⟨c0, c1⟩
  have ROW : Hid (∀ wr, Below w.heap.size w wr → ∀ j, j < xs.length → ∃ b off, a = some ⟨b, off, none⟩ ∧ wr.cell? ⟨b, off + j, none⟩ = some (f j) ∧ Ints wr.heap.size wr (f j) (xs.getD j [])) := fun wr hb j hj => by
    obtain ⟨b, off, e, _, hc⟩ := hf j hj
    obtain ⟨_, hz, _⟩ := cells_of_cell hc
    exact ⟨b, off, e, (hb.cell (p := ⟨b, off + j, none⟩) (lt_heap hz)).trans hc, ((hfi j hj).later hb).ints⟩
  have FIN : Hid (∀ wr v, Below w.heap.size w wr → wr.ownsRow w.heap.size 22 1 v (idxL p xs xs.length).length ((idxL p xs xs.length).map f) → ListAt (fun _ => True) wr v (xs.filter p)) := fun wr v hb ho => by
    rw [filter_idx]
    refine ⟨fun j => ((idxL p xs xs.length).map f).getD j undef, ?_, fun j hj => ?_⟩
    · rw [List.length_map]
      refine Row.mono (Row.of_own (e := 22) (base := w.heap.size) ?_) (fun _ _ _ => trivial)
      have hl : ((idxL p xs xs.length).map f).length = (idxL p xs xs.length).length := by simp
      show wr.ownsRow w.heap.size 22 1 v (idxL p xs xs.length).length ((List.range (idxL p xs xs.length).length).map (fun j => ((idxL p xs xs.length).map f).getD j undef))
      rw [← hl, range_getD, hl]
      exact ho
    · rw [List.length_map] at hj
      have hj' : j < (idxL p xs xs.length).length := hj
      have hm : (idxL p xs xs.length)[j] < xs.length := by
        have := List.getElem_mem hj'
        have h2 := (List.mem_filter.1 this).1
        exact List.mem_range.1 h2
      have e1 : ((idxL p xs xs.length).map f).getD j undef = f ((idxL p xs xs.length)[j]) := by simp [List.getD, hj']
      have e2 : (((List.range xs.length).filter (fun j => p (xs.getD j []))).map (fun j => xs.getD j [])).getD j [] = xs.getD ((idxL p xs xs.length)[j]) [] := by
        show ((idxL p xs xs.length).map (fun j => xs.getD j [])).getD j [] = _
        rw [List.getD, List.getElem?_map, List.getElem?_eq_getElem hj']
        rfl
      show IntsS _ wr (((idxL p xs xs.length).map f).getD j undef) _
      rw [e1, e2]
      exact ((hfi _ hm).later hb).mono (fun _ _ _ => trivial)
  have ONE : Hid (∀ j, j < xs.length → (f j).oneCell' = true) := fun j hj => by
    obtain ⟨ja, jc, e, _⟩ := hfi j hj
    rw [e]; rfl
  have HO : Hid (∀ wr, Below w.heap.size w wr → Ints wr.heap.size wr (.slice oa o.length oc) o ∧ Ints wr.heap.size wr (.slice xa x.length xc) x) := fun wr hb => ⟨(hov.later hb).ints, (hx.below hb (Nat.le_refl _)).mono hb.size⟩
  have mixed : Try.prog.follows .mixedOrders = true := by kernel_rfl
  obtain ⟨i0, hi0, hz0, hz1, hz2⟩ := infoT
  have ht : Try.prog.underlying 32 = some (.slice 22) := by kernel_rfl
  have HP := hide hp
  clear h hh hov hx hf hfi hlt0 hp
  go_enter Try.func29, Try.ntmps29
  go_wp2_with fail
  go_loopw [7, 8] (fun v i wr => RgR p xs f w v i wr) (fun _ i _ => xs.length - (intOf i).toNat)
  case atStart => exact ⟨0, Nat.zero_le _, rfl, Below.refl _ _, World.ownsRow_nil _ _ _ _⟩
  case round =>
    obtain ⟨k, hk, rfl, hb, hrow⟩ := hrel
    obtain ⟨g0, g1⟩ := unhide CELL wr hb
    have HB := hide hb
    have HROW := hide hrow
    by_cases hlt : k < xs.length
    · obtain ⟨b, off, rfl, hc, hy⟩ := unhide ROW wr hb k hlt
      obtain ⟨y, hye⟩ : ∃ y, y = xs.getD k [] := ⟨_, rfl⟩
      rw [← hye] at hy
      obtain ⟨c, hce⟩ : ∃ c, c = headA o n y x := ⟨_, rfl⟩
      have hpc : p (xs.getD k []) = c := by rw [unhide HP, hce, hye]
      have hcm : ∀ m, Calls Try.prog 23 #[.slice oa o.length oc, .int .i64 n, f k, .slice xa x.length xc] (wr.drewN m) fun e w' => e = .returned (.bool c) ∧ ∃ m', w' = (wr.drewN m).drewN m' := fun m => by
        rw [hce]
        exact rhead_q wr.heap.size (wr.drewN m) _ _ _ o y x n (Nat.le_refl _) (unhide HO wr hb).1 hy (unhide HO wr hb).2
      obtain ⟨ya, yc, ey, _⟩ := id hy
      have hone := unhide ONE k hlt
      generalize hyl : y.length = yl at ey
      have HFK := hide ey
      rw [ey] at hc hcm hone
      have hg : (k : Int) < (xs.length : Int) := by omega
      have HCM := hide hcm
      have HPC := hide hpc
      clear hb hye hy ey hcm hce hrow hpc hyl
      cases c with
      | true =>
        go_wp2_with fail
        go_quiet (first | (go_at_call 23; exact Calls.quiet_of (unhide HCM _)))
        generalize hwq : World.drewN wr _ = wq
        have bq : Below wr.heap.size wr wq := by rw [← hwq]; exact below_drewN (Below.refl _ _) _
        have q1 := (bq.cell (p := ⟨rb, d + 1, none⟩) (by obtain ⟨_, hz, _⟩ := cells_of_cell g1; exact lt_heap hz)).trans g1
        have q2 := (bq.cell (p := ⟨b, off + k, none⟩) (by obtain ⟨_, hz, _⟩ := cells_of_cell hc; exact lt_heap hz)).trans hc
        have HOW := hide (own_later (own_later (unhide HROW) bq) ((Below.refl _ wq).alloc (Nat.le_refl _) (.cells #[.slice ya yl yc] 22)))
        have b0q := (unhide HB).trans (bq.mono (unhide HB).size)
        have hsq := b0q.size
        have hll := idxL_len p xs k
        have HBQ := hide b0q
        clear hwq bq g0 g1 hc b0q
        go_wp2_with (at_builtin; refine wpList_append_own _ rfl _ _ 32 rfl w.heap.size 22 i0 (.slice none 0 0) 1 24 ht hi0 hz0 hz1 hz2 rfl (by decide) _ _ _ rfl (unhide HOW) ⟨wq.heap.size, 0, none⟩ 1 1 [.slice ya yl yc] rfl rfl (cell_one_new _ _ _) (by simp [Value.oneCell']) (by unfold maxLen; omega) (by omega) (by simp; omega) ?_; intro v' w3 hown hgrow hnil; have HV := hide (And.intro hown hgrow); clear hown hgrow hnil)
        go_roundw
        case rel =>
          obtain ⟨hown, hgrow⟩ := unhide HV
          have hK := own_keep (unhide HOW) hgrow
          have b3 : Below w.heap.size w w3 := ((unhide HBQ).trans (((Below.refl _ wq).alloc (Nat.le_refl _) (.cells #[.slice ya yl yc] 22)).mono hsq)).trans (hK.below (by simp; omega) (fun b hb => hb))
          refine ⟨k + 1, by omega, by go_num, b3, ?_⟩
          rw [idxL_yes (unhide HPC), List.length_append, List.map_append]
          rw [show List.map f [k] = [.slice ya yl yc] by simp [unhide HFK]]
          exact hown
        case measure => simp [intOf]; omega
      | false =>
        go_wp2_with fail
        go_quiet (first | (go_at_call 23; exact Calls.quiet_of (unhide HCM _)))
        go_wp2_with fail
        go_roundw
        case rel =>
          refine ⟨k + 1, by omega, by go_num, below_drewN (unhide HB) _, ?_⟩
          rw [idxL_no (unhide HPC)]
          exact own_later (unhide HROW) (below_drewN (Below.refl _ _) _)
        case measure => simp [intOf]; omega
    · have hg : ¬ ((k : Int) < (xs.length : Int)) := by omega
      have hke : k = xs.length := by omega
      rw [hke] at hrow
      have HF2 := hide (unhide FIN wr _ hb hrow)
      clear hb hrow HROW hke
      go_wp2_with fail
      go_ret
      exact ⟨_, rfl, unhide HF2, unhide HB⟩
end Go.Proofs.Ytmjlhmhkbfnccaa
