/- The document's Range. The document's From. -/
import Derived.Test.YtmjlhmhkbfnccaaRefF
import Derived.Test.YtmjlhmhkbfnccaaQuietH
namespace Go.Proofs.Ytmjlhmhkbfnccaa
open Go.RowKit Go.Shelf Go.Maps

theorem filter_idx (p : List Int → Bool) (xs : List (List Int)) : xs.filter p = ((List.range xs.length).filter (fun j => p (xs.getD j []))).map (fun j => xs.getD j []) := by
  have e : (List.range xs.length).map (fun j => xs.getD j []) = xs := by
    apply List.ext_getElem
    · simp
    · intro i h1 h2
      simp [List.getD, h2]
  have h := List.filter_map (f := fun j => xs.getD j []) (p := p) (l := List.range xs.length)
  rw [e] at h
  exact h
def idxL (p : List Int → Bool) (xs : List (List Int)) (k : Nat) : List Nat := (List.range k).filter (fun j => p (xs.getD j []))
theorem idxL_yes {p : List Int → Bool} {xs : List (List Int)} {k : Nat} (h : p (xs.getD k []) = true) : idxL p xs (k + 1) = idxL p xs k ++ [k] := by
  unfold idxL
  rw [List.range_succ, List.filter_append, List.filter_cons, if_pos h, List.filter_nil]
theorem idxL_no {p : List Int → Bool} {xs : List (List Int)} {k : Nat} (h : p (xs.getD k []) = false) : idxL p xs (k + 1) = idxL p xs k := by
  unfold idxL
  rw [List.range_succ, List.filter_append, List.filter_cons, if_neg (by simp only [h]; decide), List.filter_nil, List.append_nil]
theorem idxL_len (p : List Int → Bool) (xs : List (List Int)) (k : Nat) : (idxL p xs k).length ≤ k := by
  have := List.length_filter_le (fun j => p (xs.getD j [])) (List.range k)
  simpa [idxL] using this
def RgR (p : List Int → Bool) (xs : List (List Int)) (f : Nat → Value) (w : World) (ov i : Value) (wr : World) : Prop := ∃ k : Nat, k ≤ xs.length ∧ i = .int .i64 k ∧ Below w.heap.size w wr ∧ wr.ownsRow w.heap.size 22 1 ov (idxL p xs k).length ((idxL p xs k).map f)

set_option maxRecDepth 100000 in
set_option maxHeartbeats 4000000 in
theorem rrange_at (S : Nat → Prop) (w : World) (rb d : Nat) (cs : Array Value) (o x : List Int) (n : Int) (xs : List (List Int)) (xv : Value) (h : RAt S w rb d cs o xs) (hx : Ints w.heap.size w xv x) (hN : xs.length ≤ 1024) :
    Calls Try.prog 29 #[.pointer (some ⟨rb, d, none⟩), .int .i64 n, xv] w fun e w' => ∃ rv, e = .returned rv ∧ ListAt (fun _ => True) w' rv (xs.filter (fun y => headA o n y x)) ∧ Below w.heap.size w w' := by
  obtain ⟨p, hp⟩ : ∃ p : List Int → Bool, p = fun y => headA o n y x := ⟨_, rfl⟩
  rw [← hp]
  obtain ⟨ov, tv, hh, hov, ⟨f, ⟨a, cap, rfl, hc1, hc2, hf⟩, hfi⟩, _⟩ := h.cells
  obtain ⟨oa, oc, rfl, _⟩ := id hov
  obtain ⟨xa, xc, rfl, _⟩ := id hx
  have hlt0 := hh.lt
  have CELL : Hid (∀ wr, Below w.heap.size w wr → wr.cell? ⟨rb, d, none⟩ = some (.slice oa o.length oc) ∧ wr.cell? ⟨rb, d + 1, none⟩ = some (.slice a xs.length cap)) := fun wr hb => by
    obtain ⟨c0, c1, _⟩ := At2.cells (hh.later hb)
    exact ⟨c0, c1⟩
  have ROW : Hid (∀ wr, Below w.heap.size w wr → ∀ j, j < xs.length → ∃ b off, a = some ⟨b, off, none⟩ ∧ wr.cell? ⟨b, off + j, none⟩ = some (f j) ∧ Ints wr.heap.size wr (f j) (xs.getD j [])) := fun wr hb j hj => by
    obtain ⟨b, off, e, _, hc⟩ := hf j hj
    obtain ⟨_, hz, _⟩ := cells_of_cell hc
    exact ⟨b, off, e, (hb.cell (p := ⟨b, off + j, none⟩) (lt_heap hz)).trans hc, ((hfi j hj).later hb).ints⟩
  have FIN : Hid (∀ wr v, Below w.heap.size w wr → wr.ownsRow w.heap.size 22 1 v (idxL p xs xs.length).length ((idxL p xs xs.length).map f) → ListAt (fun _ => True) wr v (xs.filter p)) := fun wr v hb ho => by
    rw [filter_idx]
    refine ⟨fun j => ((idxL p xs xs.length).map f).getD j undef, ?_, fun j hj => ?_⟩
    · rw [List.length_map]
      refine Row.mono (Row.of_own (e := 22) (base := w.heap.size) ?_) (fun _ _ _ => trivial)
      have hl : ((idxL p xs xs.length).map f).length = (idxL p xs xs.length).length := by simp
      show wr.ownsRow w.heap.size 22 1 v (idxL p xs xs.length).length ((List.range (idxL p xs xs.length).length).map (fun j => ((idxL p xs xs.length).map f).getD j undef))
      rw [← hl, range_getD, hl]
      exact ho
    · rw [List.length_map] at hj
      have hj' : j < (idxL p xs xs.length).length := hj
      have hm : (idxL p xs xs.length)[j] < xs.length := by
        have := List.getElem_mem hj'
        have h2 := (List.mem_filter.1 this).1
        exact List.mem_range.1 h2
      have e1 : ((idxL p xs xs.length).map f).getD j undef = f ((idxL p xs xs.length)[j]) := by simp [List.getD, hj']
      have e2 : (((List.range xs.length).filter (fun j => p (xs.getD j []))).map (fun j => xs.getD j [])).getD j [] = xs.getD ((idxL p xs xs.length)[j]) [] := by
        show ((idxL p xs xs.length).map (fun j => xs.getD j [])).getD j [] = _
        rw [List.getD, List.getElem?_map, List.getElem?_eq_getElem hj']
        rfl
      show IntsS _ wr (((idxL p xs xs.length).map f).getD j undef) _
      rw [e1, e2]
      exact ((hfi _ hm).later hb).mono (fun _ _ _ => trivial)
  have ONE : Hid (∀ j, j < xs.length → (f j).oneCell' = true) := fun j hj => by
    obtain ⟨ja, jc, e, _⟩ := hfi j hj
    rw [e]; rfl
  have HO : Hid (∀ wr, Below w.heap.size w wr → Ints wr.heap.size wr (.slice oa o.length oc) o ∧ Ints wr.heap.size wr (.slice xa x.length xc) x) := fun wr hb => ⟨(hov.later hb).ints, (hx.below hb (Nat.le_refl _)).mono hb.size⟩
  have mixed : Try.prog.follows .mixedOrders = true := by kernel_rfl
  obtain ⟨i0, hi0, hz0, hz1, hz2⟩ := infoT
  have ht : Try.prog.underlying 32 = some (.slice 22) := by kernel_rfl
  have HP := hide hp
  clear h hh hov hx hf hfi hlt0 hp
  go_enter Try.func29, Try.ntmps29
  go_wp2_with fail
  go_loopw [7, 8] (fun v i wr => RgR p xs f w v i wr) (fun _ i _ => xs.length - (intOf i).toNat)
  case atStart => exact ⟨0, Nat.zero_le _, rfl, Below.refl _ _, World.ownsRow_nil _ _ _ _⟩
  case round =>
    obtain ⟨k, hk, rfl, hb, hrow⟩ := hrel
    obtain ⟨g0, g1⟩ := unhide CELL wr hb
    have HB := hide hb
    have HROW := hide hrow
    by_cases hlt : k < xs.length
    · obtain ⟨b, off, rfl, hc, hy⟩ := unhide ROW wr hb k hlt
      obtain ⟨y, hye⟩ : ∃ y, y = xs.getD k [] := ⟨_, rfl⟩
      rw [← hye] at hy
      obtain ⟨c, hce⟩ : ∃ c, c = headA o n y x := ⟨_, rfl⟩
      have hpc : p (xs.getD k []) = c := by rw [unhide HP, hce, hye]
      have hcm : ∀ m, Calls Try.prog 23 #[.slice oa o.length oc, .int .i64 n, f k, .slice xa x.length xc] (wr.drewN m) fun e w' => e = .returned (.bool c) ∧ ∃ m', w' = (wr.drewN m).drewN m' := fun m => by
        rw [hce]
        exact rhead_q wr.heap.size (wr.drewN m) _ _ _ o y x n (Nat.le_refl _) (unhide HO wr hb).1 hy (unhide HO wr hb).2
      obtain ⟨ya, yc, ey, _⟩ := id hy
      have hone := unhide ONE k hlt
      generalize hyl : y.length = yl at ey
      have HFK := hide ey
      rw [ey] at hc hcm hone
      have hg : (k : Int) < (xs.length : Int) := by omega
      have HCM := hide hcm
      have HPC := hide hpc
      clear hb hye hy ey hcm hce hrow hpc hyl
      cases c with
      | true =>
        go_wp2_with fail
        go_quiet (first | (go_at_call 23; exact Calls.quiet_of (unhide HCM _)))
        generalize hwq : World.drewN wr _ = wq
        have bq : Below wr.heap.size wr wq := by rw [← hwq]; exact below_drewN (Below.refl _ _) _
        have q1 := (bq.cell (p := ⟨rb, d + 1, none⟩) (by obtain ⟨_, hz, _⟩ := cells_of_cell g1; exact lt_heap hz)).trans g1
        have q2 := (bq.cell (p := ⟨b, off + k, none⟩) (by obtain ⟨_, hz, _⟩ := cells_of_cell hc; exact lt_heap hz)).trans hc
        have HOW := hide (own_later (own_later (unhide HROW) bq) ((Below.refl _ wq).alloc (Nat.le_refl _) (.cells #[.slice ya yl yc] 22)))
        have b0q := (unhide HB).trans (bq.mono (unhide HB).size)
        have hsq := b0q.size
        have hll := idxL_len p xs k
        have HBQ := hide b0q
        clear hwq bq g0 g1 hc b0q
        go_wp2_with (at_builtin; refine wpList_append_own _ rfl _ _ 32 rfl w.heap.size 22 i0 (.slice none 0 0) 1 24 ht hi0 hz0 hz1 hz2 rfl (by decide) _ _ _ rfl (unhide HOW) ⟨wq.heap.size, 0, none⟩ 1 1 [.slice ya yl yc] rfl rfl (cell_one_new _ _ _) (by simp [Value.oneCell']) (by unfold maxLen; omega) (by omega) (by simp; omega) ?_; intro v' w3 hown hgrow hnil; have HV := hide (And.intro hown hgrow); clear hown hgrow hnil)
        go_roundw
        case rel =>
          obtain ⟨hown, hgrow⟩ := unhide HV
          have hK := own_keep (unhide HOW) hgrow
          have b3 : Below w.heap.size w w3 := ((unhide HBQ).trans (((Below.refl _ wq).alloc (Nat.le_refl _) (.cells #[.slice ya yl yc] 22)).mono hsq)).trans (hK.below (by simp; omega) (fun b hb => hb))
          refine ⟨k + 1, by omega, by go_num, b3, ?_⟩
          rw [idxL_yes (unhide HPC), List.length_append, List.map_append]
          rw [show List.map f [k] = [.slice ya yl yc] by simp [unhide HFK]]
          exact hown
        case measure => simp [intOf]; omega
      | false =>
        go_wp2_with fail
        go_quiet (first | (go_at_call 23; exact Calls.quiet_of (unhide HCM _)))
        go_wp2_with fail
        go_roundw
        case rel =>
          refine ⟨k + 1, by omega, by go_num, below_drewN (unhide HB) _, ?_⟩
          rw [idxL_no (unhide HPC)]
          exact own_later (unhide HROW) (below_drewN (Below.refl _ _) _)
        case measure => simp [intOf]; omega
    · have hg : ¬ ((k : Int) < (xs.length : Int)) := by omega
      have hke : k = xs.length := by omega
      rw [hke] at hrow
      have HF2 := hide (unhide FIN wr _ hb hrow)
      clear hb hrow HROW hke
      go_wp2_with fail
      go_ret
      exact ⟨_, rfl, unhide HF2, unhide HB⟩
end Go.Proofs.Ytmjlhmhkbfnccaa

namespace Go.Proofs.Ytmjlhmhkbfnccaa
open Go.RowKit Go.Shelf Go.Maps

/-- From its place on are those that are not below it. -/
theorem from_drop {o x : List Int} {xs : List (List Int)} (ho : right o = true) (hU : Up o xs) (hx : fitB o x = true) : fromL o x xs = xs.drop (atN o x xs) := by
  rw [fromL, if_pos hx]
  have h := List.takeWhile_append_dropWhile (p := fun y => decide (cmpA o y x < 0)) (l := xs)
  have hA : ∀ y ∈ xs.takeWhile (fun y => decide (cmpA o y x < 0)), cmpA o y x < 0 := fun y hy => of_decide_eq_true (tw_all xs y hy)
  have hxl := fitB_true.1 hx
  unfold atN
  generalize hAe : xs.takeWhile (fun y => decide (cmpA o y x < 0)) = A at h hA ⊢
  generalize hBe : xs.dropWhile (fun y => decide (cmpA o y x < 0)) = B at h
  have hB : ∀ y ∈ B, ¬ cmpA o y x < 0 := fun y hy => by
    cases B with
    | nil => cases hy
    | cons b r =>
      have hb : ¬ (cmpA o b x < 0) := of_decide_eq_false (dw_head xs b r hBe)
      have hpw := hU.1
      rw [← h, List.pairwise_append, List.pairwise_cons] at hpw
      rcases List.mem_cons.1 hy with rfl | hm
      · exact hb
      · intro hlt
        have h1 := hpw.2.1.1 y hm
        have l1 : b.length = o.length := hU.2.1 b (by rw [← h]; simp)
        have l2 : y.length = o.length := hU.2.1 y (by rw [← h]; simp [hm])
        exact hb (cmpA_lt_le ho l1 l2 hxl h1 (by omega))
  rw [← h, List.filter_append, List.drop_left]
  have e1 : A.filter (fun y => decide (0 ≤ cmpA o y x)) = [] := by
    rw [List.filter_eq_nil_iff]
    intro y hy
    have := hA y hy
    simp; omega
  have e2 : B.filter (fun y => decide (0 ≤ cmpA o y x)) = B := by
    rw [List.filter_eq_self]
    intro y hy
    have := hB y hy
    simp; omega
  rw [e1, e2, List.nil_append]
theorem ListAt.drop {B : Nat → Prop} {w : World} {b off cap : Nat} {xs : List (List Int)} (h : ListAt B w (.slice (some ⟨b, off, none⟩) xs.length cap) xs) {k : Nat} (hk : k ≤ xs.length) (ad : Option Addr) (ha : k < xs.length → ad = some ⟨b, off + k, none⟩) : ListAt B w (.slice ad (xs.length - k) (cap - k)) (xs.drop k) := by
  obtain ⟨f, ⟨a2, cap2, e, h2, h3, h4⟩, h5⟩ := h
  simp only [Value.slice.injEq] at e
  obtain ⟨e1, _, e3⟩ := e
  subst e3
  refine ⟨fun j => f (k + j), ⟨ad, cap - k, by simp, by simp; omega, by omega, fun j hj => ?_⟩, fun j hj => ?_⟩
  · simp only [List.length_drop] at hj
    obtain ⟨b', off', e', hb', hc⟩ := h4 (k + j) (by omega)
    rw [← e1] at e'
    cases e'
    exact ⟨b, off + k, ha (by omega), hb', by rw [Nat.add_assoc]; exact hc⟩
  · simp only [List.length_drop] at hj
    have := h5 (k + j) (by omega)
    have e2 : (xs.drop k).getD j [] = xs.getD (k + j) [] := by simp [List.getD]
    rw [e2]
    exact this

set_option maxRecDepth 100000 in
set_option maxHeartbeats 4000000 in
theorem rfrom_at (S : Nat → Prop) (w : World) (rb d : Nat) (cs : Array Value) (o x : List Int) (xs : List (List Int)) (xv : Value) (h : RAt S w rb d cs o xs) (ho : right o = true) (hU : Up o xs) (hx : Ints w.heap.size w xv x) :
    Calls Try.prog 30 #[.pointer (some ⟨rb, d, none⟩), xv] w fun e w' => ∃ rv, e = .returned rv ∧ ListAt (fun _ => True) w' rv (fromL o x xs) ∧ Below w.heap.size w w' := by
  have hat := fun m => rat_at S (w.drewN m) rb d cs o x xs xv (h.later (below_drewN (Below.refl _ _) m)) hx
  obtain ⟨ov, tv, hh, hov, hL, hnil⟩ := h.cells
  obtain ⟨oa, oc, rfl, _⟩ := id hov
  obtain ⟨xa, xc, rfl, _⟩ := id hx
  obtain ⟨_, ⟨ta, tc, etv, htc, htc2, hrw⟩, _⟩ := id hL
  subst etv
  obtain ⟨c0, c1, _⟩ := At2.cells hh
  have hlt0 := hh.lt
  have hle := atN_le o x xs
  cases hf : fitB o x with
  | false =>
    have hne : ((x.length : Int) != (o.length : Int)) = true := by
      show (!((x.length : Int) == (o.length : Int))) = true
      rw [show ((x.length : Int) == (o.length : Int)) = false from hf]; rfl
    have HF := hide hf
    clear hf hat hL hrw hov hx hh h
    go_enter Try.func30, Try.ntmps30
    go_wp2_with fail
    go_ret
    exact ⟨_, rfl, by rw [fromL, if_neg (by rw [unhide HF]; simp)]; exact ⟨fun _ => undef, Row.nil _ _ _, fun j hj => (by cases hj)⟩, Below.refl _ _⟩
  | true =>
    have hne : ((x.length : Int) != (o.length : Int)) = false := by
      show (!((x.length : Int) == (o.length : Int))) = false
      rw [show ((x.length : Int) == (o.length : Int)) = true from hf]; rfl
    have HE := hide (from_drop ho hU hf)
    have mixed : Try.prog.follows .mixedOrders = true := by kernel_rfl
    have hat0 := (hat 1).mono (fun e w' hh => (⟨hh.1, (below_drewN (Below.refl _ w) 1).trans hh.2⟩ : e = .returned (.int .i64 (atN o x xs : Int)) ∧ Below w.heap.size w w'))
    have hat1 : Calls Try.prog 49 #[.pointer (some ⟨rb, d, none⟩), .slice xa x.length xc] w.drew fun e w' => e = .returned (.int .i64 (atN o x xs : Int)) ∧ Below w.heap.size w w' := hat0
    generalize atN o x xs = n at hat1 hle HE
    have HL := hide hL
    by_cases hn : xs = []
    · have etv := hnil hn
      subst hn
      simp only [Value.slice.injEq] at etv
      obtain ⟨ea, _, ec⟩ := etv
      subst ea ec
      have hn0 : n = 0 := by simpa using hle
      subst hn0
      clear hat hat0 hf hL hrw hov hx hh h hnil
      go_enter Try.func30, Try.ntmps30
      go_wp2_with fail
      go_region_with (go_at_call 49; refine hat1.mono ?_; clear hat1; rintro e w4 ⟨rfl, hb4⟩; have c4 := (hb4.cell (p := ⟨rb, d + 1, none⟩) hlt0).trans c1; have HB4 := hide hb4; clear hb4)
      all_goals
        go_wp2_with fail
        go_ret
        exact ⟨_, rfl, by rw [unhide HE]; exact ⟨fun _ => undef, Row.nil _ _ _, fun j hj => (by cases hj)⟩, unhide HB4⟩
    · have hlen : 0 < xs.length := List.length_pos_iff.2 hn
      obtain ⟨b, off, ea, _, _⟩ := hrw 0 hlen
      subst ea
      have HR : Hid (∀ wr ad, Below w.heap.size w wr → (n < xs.length → ad = some ⟨b, off + n, none⟩) → ListAt (fun _ => True) wr (.slice ad (xs.length - n) (tc - n)) (fromL o x xs)) := fun wr ad hb ha => by
        rw [unhide HE]
        exact ((hL.later hb).drop hle ad ha).mono (fun _ _ _ => trivial)
      clear hat hat0 hf hL hrw hov hx hh h hnil hn
      by_cases hcn : n < tc
      · have hcn2 : ¬ (tc - n = 0) := by omega
        have hcn3 : ¬ (tc = n) := by omega
        go_enter Try.func30, Try.ntmps30
        go_wp2_with fail
        go_region_with (go_at_call 49; refine hat1.mono ?_; clear hat1; rintro e w4 ⟨rfl, hb4⟩; have c4 := (hb4.cell (p := ⟨rb, d + 1, none⟩) hlt0).trans c1; have HB4 := hide hb4; clear hb4)
        all_goals
          go_wp2_with fail
          go_ret
          exact ⟨_, rfl, unhide HR _ _ (unhide HB4) (fun _ => rfl), unhide HB4⟩
      · have hcn2 : tc - n = 0 := by omega
        have hcn3 : tc ≤ n := by omega
        have HR2 : Hid (∀ wr, Below w.heap.size w wr → ListAt (fun _ => True) wr (.slice (some ⟨b, off, none⟩) (xs.length - n) 0) (fromL o x xs)) := fun wr hb => by
          have := unhide HR wr (some ⟨b, off, none⟩) hb (fun h => (by omega))
          rw [hcn2] at this
          exact this
        go_enter Try.func30, Try.ntmps30
        go_wp2_with fail
        go_region_with (go_at_call 49; refine hat1.mono ?_; clear hat1; rintro e w4 ⟨rfl, hb4⟩; have c4 := (hb4.cell (p := ⟨rb, d + 1, none⟩) hlt0).trans c1; have HB4 := hide hb4; clear hb4)
        all_goals
          go_wp2_with fail
          go_ret
          exact ⟨_, rfl, unhide HR2 _ (unhide HB4), unhide HB4⟩
end Go.Proofs.Ytmjlhmhkbfnccaa
