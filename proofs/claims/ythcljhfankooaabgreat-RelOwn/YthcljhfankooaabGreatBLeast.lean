/- The least tuple of a head. -/
import Derived.Test.YthcljhfankooaabGreatBHFrom
namespace Go.Proofs.YthcljhfankooaabGreat
open Go.RowKit Go.Shelf

/-- The least number in these columns. -/
def lowTo (cols x : List Int) : List Int := cols.foldl (fun l c => l.set c.toNat (-9223372036854775808)) x
theorem lowTo_length (cols : List Int) : ∀ x : List Int, (lowTo cols x).length = x.length := by
  induction cols with
  | nil => intro x; rfl
  | cons c r ih => intro x; rw [lowTo, List.foldl_cons]; exact (ih _).trans (by simp)
theorem lowTo_snoc (cols x : List Int) (c : Int) : lowTo (cols ++ [c]) x = (lowTo cols x).set c.toNat (-9223372036854775808) := by simp [lowTo, List.foldl_append]
/-- From which column on. -/
def clip (k : Int) (n : Nat) : Nat := (max 0 (min k (n : Int))).toNat
theorem clip_le (k : Int) (n : Nat) : clip k n ≤ n := by unfold clip; omega
def leastL (o : List Int) (k : Int) (x : List Int) : List Int := if fitB o x = true then lowTo (o.drop (clip k o.length)) x else x
def LRel (w : World) (rv : Value) (cols x : List Int) (i : Value) (wr : World) : Prop := ∃ j : Nat, j ≤ cols.length ∧ i = .int .i64 j ∧ OwnI w.heap.size wr rv (lowTo (cols.take j) x) ∧ Below w.heap.size w wr
theorem map_set (l : List Int) (k : Nat) (x : Int) : (l.map (Value.int .i64)).set k (.int .i64 x) = (l.set k x).map (Value.int .i64) := by rw [List.map_set]
theorem OwnI.stored {base : Nat} {w : World} {g cap : Nat} {l : List Int} {n : Nat} (h : OwnI base w (.slice (some ⟨g, 0, none⟩) n cap) l) (hn : n = l.length) (j : Nat) (x : Int) : OwnI base (w.setCell ⟨g, j, none⟩ (.int .i64 x)) (.slice (some ⟨g, 0, none⟩) n cap) (l.set j x) := by
  subst hn
  have := (World.ownsRow.stored h j (.int .i64 x)).1
  unfold OwnI
  rw [List.length_set, ← map_set]
  exact this
theorem OwnI.cell {base : Nat} {w : World} {g cap n : Nat} {l : List Int} (h : OwnI base w (.slice (some ⟨g, 0, none⟩) n cap) l) {j : Nat} (hj : j < l.length) : w.cell? ⟨g, j, none⟩ = some (.int .i64 l[j]) ∧ w.frozen? ⟨g, j, none⟩ = false := by
  have hn : n = l.length := by
    rcases h.2 with ⟨h', _⟩ | ⟨g', cap', cur, h', _⟩
    · simp at h'
    · simp only [Value.slice.injEq] at h'; exact h'.2.1
  subst hn
  refine ⟨?_, World.ownsRow.frozenAt h j⟩
  rw [World.ownsRow.cellAt h j (by omega), List.getElem?_map, List.getElem?_eq_getElem hj]
  rfl

set_option maxRecDepth 100000 in
set_option maxHeartbeats 4000000 in
theorem least_any (S : Nat → Prop) (w : World) (ov xv : Value) (o x : List Int) (p : Option Addr) (n k : Int) (hr : right o = true) (ho : IntsS S w ov o) (hx : IntsS S w xv x) :
    Calls Tryz.prog 129 #[.agg #[ov, .pointer p, .int .i64 n], .int .i64 k, xv] w fun e w' => ∃ r, e = .returned r ∧ IntsS (fun b => S b ∨ w.heap.size ≤ b) w' r (leastL o k x) ∧ Below w.heap.size w w' := by
  have HO := hide ho
  have HX := hide hx
  obtain ⟨oa, oc, rfl, hoc1, hoc2, hocell⟩ := id ho
  obtain ⟨xa, xc, rfl, _⟩ := id hx
  have b1 : Below w.heap.size w (w.alloc (.cells #[.slice oa o.length oc, .pointer p, .int .i64 n] 102)) := (Below.refl _ w).alloc (Nat.le_refl _) _
  have hnw := World.alloc_heap_new w (.cells #[.slice oa o.length oc, .pointer p, .int .i64 n] 102)
  obtain ⟨c0, c1, c2, _⟩ := three_cells hnw
  have hfit := hfits_any (w.alloc (.cells #[.slice oa o.length oc, .pointer p, .int .i64 n] 102)) oa xa o x oc xc p n
  clear ho hx
  go_enter Tryz.func129, Tryz.ntmps129
  go_wp2_with fail
  refine hfit.mono ?_
  clear hfit
  rintro e w2 ⟨rfl, hb2⟩
  have hb02 := b1.trans (hb2.mono b1.size)
  have HB2 := hide hb02
  cases hf : fitB o x with
  | false =>
    have HF := hide hf
    clear hf
    go_wp2_with fail
    go_ret
    exact ⟨_, rfl, by rw [leastL, if_neg (by simp [unhide HF])]; exact ((unhide HX).later (unhide HB2)).mono (fun b _ h => .inl h), unhide HB2⟩
  | true =>
    have HF := hide hf
    have hfl := fitB_true.1 hf
    have h8 := (right_in hr).1
    have hcl := cloneL_any S w2 _ x ((unhide HX).later hb02) (by omega)
    obtain ⟨g0, g1, g2, _⟩ := three_cells ((hb2.block w.heap.size (by simp)).trans hnw)
    clear hf hb2 b1 hb02 hnw c0 c1 c2
    have HFL := hide hfl
    clear hfl
    go_wp2_with fail
    refine hcl.mono ?_
    clear hcl
    rintro e w3 ⟨r, rfl, hown, hb3⟩
    have q0 : w3.cell? ⟨w.heap.size, 0, none⟩ = some (.slice oa o.length oc) := (hb3.cell (p := ⟨w.heap.size, 0, none⟩) (by obtain ⟨_, hz, _⟩ := cells_of_cell g0; exact lt_heap hz)).trans g0
    clear g0 g1 g2
    obtain ⟨ra, rc, rfl, _⟩ := id hown.intsS
    have HOWN := hide (And.intro hown hb3)
    clear hown hb3
    have HOC : Hid (∀ wr, Below w2.heap.size w2 wr → ∀ j, j < o.length → ∃ b off, oa = some ⟨b, off, none⟩ ∧ wr.cell? ⟨b, off + j, none⟩ = some (.int .i64 (o.getD j 0))) := fun wr hb j hj => by
      obtain ⟨b, off, e, _, hc⟩ := hocell j hj
      obtain ⟨_, hz, _⟩ := cells_of_cell hc
      have hz2 := lt_heap hz
      exact ⟨b, off, e, (hb.cell (p := ⟨b, off + j, none⟩) (Nat.lt_of_lt_of_le hz2 (unhide HB2).size)).trans (((unhide HB2).cell (p := ⟨b, off + j, none⟩) hz2).trans hc)⟩
    have HDONE : Hid (∀ wr, OwnI w2.heap.size wr (.slice ra x.length rc) (lowTo (o.drop (clip k o.length)) x) → Below w2.heap.size w2 wr → IntsS (fun b => S b ∨ w.heap.size ≤ b) wr (.slice ra x.length rc) (leastL o k x) ∧ Below w.heap.size w wr) := fun wr h hb => by
      have := (unhide HB2).size
      refine ⟨?_, (unhide HB2).trans (hb.mono this)⟩
      rw [leastL, if_pos (unhide HF)]
      exact h.intsS.mono (fun b _ hb => .inr (by omega))
    have hcl := clip_le k o.length
    have hcd : (max 0 (min k (o.length : Int))).toNat = clip k o.length := rfl
    have HIN := hide (right_in hr).2
    clear hocell
    go_wp2_with fail
    · have hcap := h
      clear h
      have h0 : o.length - clip k o.length = 0 := by omega
      have h1 : o.drop (clip k o.length) = [] := List.drop_eq_nil_of_le (by omega)
      rw [h0]
      have HFIN := hide (unhide HDONE _ (by rw [h1]; exact (unhide HOWN).1) (unhide HOWN).2)
      clear hcap h0 h1 hcd hcl
      go_loopw [27] (fun i wr => i = .int .i64 0 ∧ wr = w3) (fun _ _ => 0)
      case atStart => exact ⟨rfl, rfl⟩
      case round =>
        obtain ⟨rfl, rfl⟩ := hrel
        go_wp2_with fail
        go_ret
        exact ⟨_, rfl, unhide HFIN⟩
    · have hcap := h
      clear h
      have HLEN : Hid ((o.drop (clip k o.length)).length = o.length - clip k o.length) := by show (o.drop (clip k o.length)).length = _; simp
      go_loopw [27] (fun i wr => LRel w2 (.slice ra x.length rc) (o.drop (clip k o.length)) x i wr) (fun i _ => o.length - clip k o.length - (intOf i).toNat)
      case atStart => exact ⟨0, Nat.zero_le _, rfl, (unhide HOWN).1, (unhide HOWN).2⟩
      case round =>
        obtain ⟨j, hj, rfl, hro, hrb⟩ := hrel
        rw [unhide HLEN] at hj
        by_cases hlt : j < o.length - clip k o.length
        · obtain ⟨b, off, rfl, hc⟩ := unhide HOC wr hrb (clip k o.length + j) (by omega)
          have hcolm : o.getD (clip k o.length + j) 0 ∈ o := by
            have : clip k o.length + j < o.length := by omega
            simp [this]
          obtain ⟨col, hcol⟩ : ∃ col, col = o.getD (clip k o.length + j) 0 := ⟨_, rfl⟩
          rw [← hcol] at hc hcolm
          obtain ⟨z0, z1⟩ := unhide HIN col hcolm
          have hfl := unhide HFL
          obtain ⟨g, rfl⟩ : ∃ g, ra = some ⟨g, 0, none⟩ := by
            rcases hro.2 with ⟨h', _⟩ | ⟨g, cap, cur, h', _⟩
            · simp only [Value.slice.injEq] at h'
              omega
            · simp only [Value.slice.injEq] at h'
              exact ⟨g, h'.1⟩
          have hll : (lowTo ((o.drop (clip k o.length)).take j) x).length = x.length := lowTo_length _ _
          obtain ⟨y0, y1⟩ := hro.cell (j := col.toNat) (by rw [hll]; omega)
          have hg := (World.ownsRow.lt hro g rfl).1
          have HNX : Hid (lowTo ((o.drop (clip k o.length)).take (j + 1)) x = (lowTo ((o.drop (clip k o.length)).take j) x).set col.toNat (-9223372036854775808)) := by
            show _ = _
            rw [← lowTo_snoc, List.take_succ_eq_append_getElem (by rw [unhide HLEN]; exact hlt), List.getElem_drop]
            congr 3
            rw [hcol]
            have : clip k o.length + j < o.length := by omega
            simp [this]
          have HR := hide (And.intro hro (And.intro hrb (And.intro hll hg)))
          have hc2 : wr.cell? ⟨b, off + clip k o.length + j, none⟩ = some (.int .i64 col) := by rw [Nat.add_assoc]; exact hc
          have zx : col < (x.length : Int) := by omega
          generalize (lowTo ((o.drop (clip k o.length)).take j) x)[col.toNat]'_ = c0 at y0
          clear hro hrb hll hcolm hcol hg HOC hfl
          go_wp2_with fail
          go_roundw
          case rel =>
            obtain ⟨hro, hrb, hll, hg⟩ := unhide HR
            refine ⟨j + 1, by rw [unhide HLEN]; omega, by go_num, ?_, hrb.setCell (p := ⟨g, col.toNat, none⟩) hg _⟩
            rw [unhide HNX]
            exact hro.stored hll.symm _ _
          case measure => simp [intOf]; omega
        · have hje : j = o.length - clip k o.length := by omega
          have HFIN := hide (unhide HDONE wr (by rw [List.take_of_length_le (by rw [unhide HLEN]; omega)] at hro; exact hro) hrb)
          clear hro hrb HOC
          have hnl : ¬ ((j : Int) < ((o.length - clip k o.length : Nat) : Int)) := by omega
          have HJ := hide hje
          clear hje
          go_wp2_with fail
          go_ret
          exact ⟨_, rfl, unhide HFIN⟩
end Go.Proofs.YthcljhfankooaabGreat
