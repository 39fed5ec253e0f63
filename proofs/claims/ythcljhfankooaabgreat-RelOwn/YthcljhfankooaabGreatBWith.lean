/- A tree with one tuple more. -/
import Derived.Test.YthcljhfankooaabGreatBSplit
namespace Go.Proofs.YthcljhfankooaabGreat
open Go.RowKit Go.Shelf

theorem set_map_range {α : Type} (f : Nat → α) (n i : Nat) (v : α) : ((List.range n).map f).set i v = (List.range n).map (updf f i v) := by
  apply List.ext_getElem
  · simp
  · intro j h1 h2
    simp at h2
    by_cases e : j = i
    · subst e; simp [updf]
    · rw [List.getElem_set_ne (by omega)]
      simp [updf, e]
theorem own_below {w w' : World} {base B g n cap : Nat} {e : TypeId} {xs : List Value} (h : w.ownsRow base e 1 (.slice (some ⟨g, 0, none⟩) n cap) n xs) (hb : Below B w w') (hg : g < B) : w'.ownsRow base e 1 (.slice (some ⟨g, 0, none⟩) n cap) n xs := by
  refine ⟨h.1, .inr ?_⟩
  rcases h.2 with ⟨h', _⟩ | ⟨g', cap', cur, h', h2, h3, h4⟩
  · cases h'
  · cases h'
    exact ⟨g, cap, cur, rfl, h2, (hb.block g hg).trans h3, h4⟩
theorem new_cells {w : World} {b : Nat} {x y : Value} {t : TypeId} (h : w.heap[b]? = some (.cells #[x, y] t (0, 0))) : w.cell? ⟨b, 0, none⟩ = some x ∧ w.cell? ⟨b, 1, none⟩ = some y := by simp [World.cell?, h]
theorem slice_one {S : Nat → Prop} {w : World} {v : Value} {l : List Int} (h : IntsS S w v l) : v.oneCell' = true := by
  obtain ⟨a, c, rfl, _⟩ := h
  rfl
theorem seg_halves (c : Nat → List Item) (t : Nat → Item) : seg c t 0 16 = seg c t 0 8 ++ t 8 :: seg c t 9 7 := by
  rw [seg_parts c t 8 16 (by omega), seg_parts c t 8 8 (by omega)]
  simp [bk]

set_option maxRecDepth 100000 in
set_option maxHeartbeats 4000000 in
theorem adopt_any (S : Nat → Prop) (w : World) (d b n i : Nat) (tv kv : Value) (t : Nat → Item) (c : Nat → List Item) (k : Nat → Option Addr) (hN : NodeAt S w (d + 1) 15 b n tv kv t k) (hk : ∀ j, j ≤ n → Tree S w (d + 1) 15 (k j) (c j)) (hi : i ≤ n) (kp : Option Addr) (l' : List Item)
    (hT : Tree S w (d + 1) 16 kp l') (hnew : NewIn S w) :
    Calls Tryz.prog 121 #[.pointer (some ⟨b, 0, none⟩), .int .i64 i, .pointer kp] w fun e w' => ∃ p, e = .returned (.pointer p) ∧ Tree S w' (d + 2) 16 p (up c t i ++ (l' ++ bk c t i n)) ∧ Below w.heap.size w w' := by
  obtain ⟨b2, n2, tv2, kv2, t2, c2, k2, rfl, rfl, hN2, hk2⟩ := hT
  have hn15 := hN.len
  have hcl := cloneK_any S w kv (n + 1) (fun j => .pointer (k j)) (hN.inner (by omega)) (fun _ _ => rfl) (by omega)
  obtain ⟨ta, tc, rfl, _⟩ := id hN.row
  obtain ⟨ta2, tc2, rfl, _⟩ := id hN2.row
  obtain ⟨ka, kc, rfl, _⟩ := id (hN.inner (by omega))
  have hblt : b < w.heap.size := by obtain ⟨_, h, _⟩ := cells_of_cell hN.c0; exact lt_heap h
  have hblt2 : b2 < w.heap.size := by obtain ⟨_, h, _⟩ := cells_of_cell hN2.c0; exact lt_heap h
  have h1 := hN.c1
  have HN := hide hN
  have HK := hide hk
  have HN2 := hide hN2
  have HK2 := hide hk2
  have HNEW := hide hnew
  clear hN hk hN2 hk2 hnew
  go_enter Tryz.func121, Tryz.ntmps121
  go_wp2_with fail
  refine hcl.mono ?_
  rintro e w1 ⟨r, rfl, hown, hb⟩
  obtain ⟨g, cap, rfl⟩ := ownsRow_succ hown
  have hg := World.ownsRow.lt hown g rfl
  have hcap : n + 1 ≤ cap := by
    rcases hown.2 with ⟨h', _⟩ | ⟨g', cap', cur, h', _, _, h4, _⟩
    · cases h'
    · cases h'; exact h4
  have hcap2 : cap ≤ 9223372036854775807 := by
    rcases hown.2 with ⟨h', _⟩ | ⟨g', cap', cur, h', _, _, _, h5, _⟩
    · cases h'
    · cases h'; unfold maxLen at h5; omega
  have q0 := (hb.cell (p := ⟨b, 0, none⟩) hblt).trans (unhide HN).c0
  have q2 := (hb.cell (p := ⟨b2, 0, none⟩) hblt2).trans (unhide HN2).c0
  have HO := hide hown
  have HB := hide hb
  have ne1 : ¬ (b = g) := by omega
  have ne2 : ¬ (g = b) := by omega
  clear hown hb hcl h1
  have hn2 := (unhide HN2).len
  by_cases h15 : n2 ≤ 15
  · have f1 : w1.cell? ⟨g, i, none⟩ = some (.pointer (k i)) := by rw [World.ownsRow.cellAt (unhide HO) i (by omega), List.getElem?_map, List.getElem?_range (by omega)]; rfl
    have f2 : w1.frozen? ⟨g, i, none⟩ = false := World.ownsRow.frozenAt (unhide HO) i
    have HL := hide (And.intro hg hcap)
    clear hg
    go_wp2_with fail
    go_ret
    obtain ⟨hg, _⟩ := unhide HL
    have hbb := unhide HB
    have hB : Below w.heap.size w ((w1.setCell ⟨g, i, none⟩ (.pointer (some ⟨b2, 0, none⟩))).alloc (.cells #[.slice ta n tc, .slice (some ⟨g, 0, none⟩) (n + 1) cap] 171)) :=
      (hbb.setCell (p := ⟨g, i, none⟩) hg.1 _).alloc (by have := hbb.size; simp [World.setCell]; omega) _
    have hst : Stays S w _ := Stays.of_below hB
    refine ⟨_, rfl, ?_, hB⟩
    have hsz : (w1.setCell ⟨g, i, none⟩ (.pointer (some ⟨b2, 0, none⟩))).heap.size = w1.heap.size := by simp [World.setCell]
    have hnw := World.alloc_heap_new (w1.setCell ⟨g, i, none⟩ (.pointer (some ⟨b2, 0, none⟩))) (.cells #[.slice ta n tc, .slice (some ⟨g, 0, none⟩) (n + 1) cap] 171)
    rw [hsz] at hnw
    refine ⟨w1.heap.size, n, .slice ta n tc, .slice (some ⟨g, 0, none⟩) (n + 1) cap, t, updf c i (seg c2 t2 0 n2), updf k i (some ⟨b2, 0, none⟩), rfl, (seg_upd c t i n _ hi).symm, ⟨unhide HNEW _ hbb.size, (new_cells hnw).1, (new_cells hnw).2, ((unhide HN).stays hst).row, ((unhide HN).stays hst).items, by omega, fun h => by omega, fun _ => ?_⟩, fun j hj => ?_⟩
    · have h2 := (World.ownsRow.stored (unhide HO) i (.pointer (some ⟨b2, 0, none⟩))).1
      rw [set_map_range] at h2
      refine (Row.mono (S' := S) (Row.stays (Row.of_own h2) (Step.alloc 0 _ _).stays) (fun b _ h => unhide HNEW b h)).congr fun j _ => ?_
      unfold updf
      split <;> rfl
    · by_cases e : j = i
      · subst e
        rw [updf_eq, updf_eq]
        refine Tree.stays hst ⟨b2, n2, _, kv2, t2, c2, k2, rfl, rfl, { (unhide HN2) with len := h15 }, unhide HK2⟩
      · rw [updf_ne e, updf_ne e]
        exact (unhide HK j hj).stays hst
  · obtain rfl : n2 = 16 := by omega
    have hbb := unhide HB
    have hst1 : Stays S w w1 := Stays.of_below hbb
    have hS : ∀ q, q < w.heap.size → S q → (fun q => S q ∧ q ≠ g) q := fun q h1 h2 => ⟨h2, by omega⟩
    have hst2 : Stays (fun q => S q ∧ q ≠ g) w w1 := Stays.of_below hbb
    have hs := split_any (fun q => S q ∧ q ≠ g) w1 d b2 16 _ kv2 t2 c2 k2 (((unhide HN2).mono hS).stays hst2) (by omega) (fun j hj => ((unhide HK2 j hj).mono hS).stays hst2) (fun q hq => ⟨unhide HNEW q (by have := hbb.size; omega), by omega⟩)
    clear hS hst2
    clear hbb hst1
    have HL := hide (And.intro hg hcap)
    clear hg
    go_wp2_with fail
    refine hs.mono ?_
    clear hs
    rintro e w2 ⟨lb, rb, rfl, hTl, hTr, hb2⟩
    obtain ⟨hg, _⟩ := unhide HL
    have HO2 : Hid (w2.ownsRow w.heap.size 100 1 (.slice (some ⟨g, 0, none⟩) (n + 1) cap) (n + 1) ((List.range (n + 1)).map fun j => .pointer (k j))) := own_below (unhide HO) hb2 hg.2
    have f1 : w2.cell? ⟨g, i, none⟩ = some (.pointer (k i)) := by rw [World.ownsRow.cellAt (unhide HO2) i (by omega), List.getElem?_map, List.getElem?_range (by omega)]; rfl
    have f2 : w2.frozen? ⟨g, i, none⟩ = false := World.ownsRow.frozenAt (unhide HO2) i
    have hbw2 : Below w.heap.size w w2 := (unhide HB).trans (hb2.mono (unhide HB).size)
    have q3 := (hbw2.cell (p := ⟨b, 0, none⟩) hblt).trans (unhide HN).c0
    have HB2 := hide hbw2
    have HTL := hide hTl
    have HTR := hide hTr
    have HG : Hid (w.heap.size ≤ g ∧ g < w2.heap.size) := ⟨hg.1, by have := hb2.size; omega⟩
    clear hTl hTr hb2 hbw2 hg q0 q2
    go_wp2_with fail
    have hbw3 : Below w.heap.size w (w2.setCell ⟨g, i, none⟩ (.pointer (some ⟨rb, 0, none⟩))) := (unhide HB2).setCell (p := ⟨g, i, none⟩) (unhide HG).1 _
    have hO3 := (World.ownsRow.stored (unhide HO2) i (.pointer (some ⟨rb, 0, none⟩))).1
    rw [set_map_range] at hO3
    have hTl3 : Tree (fun q => S q ∧ q ≠ g) (w2.setCell ⟨g, i, none⟩ (.pointer (some ⟨rb, 0, none⟩))) (d + 1) 15 (some ⟨lb, 0, none⟩) (seg c2 t2 0 8) := (unhide HTL).stays (((Keeps.refl (fun q => q = g) w2).setCell ⟨g, i, none⟩ rfl _).stays (fun q _ h => h.2))
    have hTr3 : Tree (fun q => S q ∧ q ≠ g) (w2.setCell ⟨g, i, none⟩ (.pointer (some ⟨rb, 0, none⟩))) (d + 1) 15 (some ⟨rb, 0, none⟩) (seg c2 t2 9 7) := (unhide HTR).stays (((Keeps.refl (fun q => q = g) w2).setCell ⟨g, i, none⟩ rfl _).stays (fun q _ h => h.2))
    have hsz3 : (w2.setCell ⟨g, i, none⟩ (.pointer (some ⟨rb, 0, none⟩))).heap.size = w2.heap.size := by simp [World.setCell]
    have hg3 := unhide HG
    rw [← hsz3] at hg3
    obtain ⟨w3, hw3⟩ : ∃ w3, w3 = w2.setCell ⟨g, i, none⟩ (.pointer (some ⟨rb, 0, none⟩)) := ⟨_, rfl⟩
    rw [← hw3] at hbw3 hO3 hTl3 hTr3 hg3 ⊢
    have hst3 : Stays S w w3 := Stays.of_below hbw3
    have hclT := cloneT_any S w3 (.slice ta n tc) n (fun j => (t j).1) ((unhide HN).row.stays hst3) (fun j hj => slice_one ((unhide HN).items j hj)) (by omega)
    have HW := hide (And.intro hbw3 (And.intro hO3 (And.intro hTl3 (And.intro hTr3 hg3))))
    clear hbw3 hO3 hTl3 hTr3 hg3 hw3 hsz3 f1 f2 q3 hst3
    refine hclT.mono ?_
    clear hclT
    rintro e w4 ⟨r2, rfl, hown2, hb4⟩
    have hmid : (t2 8).1.oneCell' = true := slice_one ((unhide HN2).items 8 (by omega))
    have hne2 : r2.ownBlock ≠ some w4.heap.size := fun e => by have := (World.ownsRow.lt hown2 _ e).2; omega
    have hins := insT_any w3.heap.size (w4.alloc (.cells #[(t2 8).1] 32)) r2 n i w4.heap.size (fun j => (t j).1) (t2 8).1 (World.ownsRow.alloc hown2 _) hi (by omega) (fun j hj => slice_one ((unhide HN).items j hj)) hmid (World.alloc_heap_new _ _) hne2 (by have := hb4.size; simp; omega)
    obtain ⟨sa8, sc8, e8, _⟩ := (unhide HN2).items 8 (by omega)
    have HR2 : Hid (∀ b, r2.ownBlock = some b → w3.heap.size ≤ b) := fun b e => (World.ownsRow.lt hown2 b e).1
    have HE8 := hide e8
    have HB4 := hide hb4
    rw [e8] at hins ⊢
    have hr2 : ∃ a2 c2', r2 = .slice a2 n c2' := by
      rcases hown2.2 with ⟨e, e0⟩ | ⟨g', cap', cur, e, _⟩
      · exact ⟨none, 0, by rw [e, e0]⟩
      · exact ⟨_, _, e⟩
    obtain ⟨ra2, rc2, rfl⟩ := hr2
    clear e8 hown2 hb4 hne2
    go_wp2_with fail
    refine hins.mono ?_
    clear hins
    rintro e w6 ⟨r3, rfl, hrow3, hk6⟩
    obtain ⟨hbw3, hO3, hTl3, hTr3, hg3⟩ := unhide HW
    have hb36 : Below w3.heap.size w3 w6 := (((unhide HB4).alloc (unhide HB4).size _).trans (hk6.below (by have := (unhide HB4).size; simp; omega) (unhide HR2)))
    have hO6 := own_below hO3 hb36 hg3.2
    have hne6 : (Value.slice (some ⟨g, 0, none⟩) (n + 1) cap).ownBlock ≠ some w6.heap.size := fun e => by
      have e2 : g = w6.heap.size := by simpa [Value.ownBlock] using e
      have := hb36.size
      omega
    have hinsK := insK_any w.heap.size (w6.alloc (.cells #[.pointer (some ⟨lb, 0, none⟩)] 100)) (.slice (some ⟨g, 0, none⟩) (n + 1) cap) (n + 1) i w6.heap.size _ (.pointer (some ⟨lb, 0, none⟩)) (World.ownsRow.alloc hO6 _) (by omega) (by omega) (fun j _ => by unfold updf; split <;> rfl) rfl (World.alloc_heap_new _ _) hne6 (by have := hbw3.size; have := hb36.size; simp; omega)
    obtain ⟨ra3, rc3, rfl, _⟩ := id hrow3
    have HW6 := hide (And.intro hb36 hrow3)
    clear hbw3 hO3 hTl3 hTr3 hg3 hb36 hO6 hne6 hk6 hrow3
    go_wp2_with fail
    refine hinsK.mono ?_
    clear hinsK
    rintro e w8 ⟨r4, rfl, hrow4, hk8⟩
    obtain ⟨ra4, rc4, rfl, _⟩ := id hrow4
    have HW8 := hide (And.intro hrow4 hk8)
    clear hrow4 hk8
    go_wp2_with fail
    go_ret
    obtain ⟨hbw3, hO3, hTl3, hTr3, hg3⟩ := unhide HW
    obtain ⟨hb36, hrow3⟩ := unhide HW6
    obtain ⟨hrow4, hk8⟩ := unhide HW8
    have hk38 : Keeps (fun q => q = g) w3 (w8.alloc (.cells #[.slice ra3 (n + 1) rc3, .slice ra4 (n + 1 + 1) rc4] 171)) :=
      (((Keeps.of_below hb36).alloc _).trans hk8 (fun q _ e => by simpa [Value.ownBlock] using e.symm)).alloc _
    have hk68 : Keeps (fun q => q = g) w6 (w8.alloc (.cells #[.slice ra3 (n + 1) rc3, .slice ra4 (n + 1 + 1) rc4] 171)) :=
      (((Keeps.refl _ w6).alloc _).trans hk8 (fun q _ e => by simpa [Value.ownBlock] using e.symm)).alloc _
    have hB : Below w.heap.size w (w8.alloc (.cells #[.slice ra3 (n + 1) rc3, .slice ra4 (n + 1 + 1) rc4] 171)) := hbw3.trans (hk38.below hbw3.size (fun q e => by subst e; exact hg3.1))
    refine ⟨_, rfl, ?_, hB⟩
    have hst : Stays S w (w8.alloc (.cells #[.slice ra3 (n + 1) rc3, .slice ra4 (n + 1 + 1) rc4] 171)) := Stays.of_below hB
    have hst8 : Stays (fun q => S q ∧ q ≠ g) w3 (w8.alloc (.cells #[.slice ra3 (n + 1) rc3, .slice ra4 (n + 1 + 1) rc4] 171)) := hk38.stays (fun q _ h => h.2)
    have hnw := World.alloc_heap_new w8 (.cells #[.slice ra3 (n + 1) rc3, .slice ra4 (n + 1 + 1) rc4] 171)
    have hs3 := hbw3.size
    have hs36 := hb36.size
    have hs8 := hk8.size
    simp only [World.size_alloc] at hs8
    refine ⟨w8.heap.size, n + 1, .slice ra3 (n + 1) rc3, .slice ra4 (n + 1 + 1) rc4, insf t i (t2 8), insf (updf c i (seg c2 t2 9 7)) i (seg c2 t2 0 8), insf (updf k i (some ⟨rb, 0, none⟩)) i (some ⟨lb, 0, none⟩), rfl, ?_,
      ⟨unhide HNEW _ (by omega), (new_cells hnw).1, (new_cells hnw).2, ?_, fun j hj => ?_, by omega, fun h => by omega, fun _ => ?_⟩, fun j hj => ?_⟩
    · rw [seg_ins c t i n _ _ _ hi, seg_halves]
    · refine (Row.mono (S' := S) (Row.stays hrow3 (hk68.stays (S := fun b => w3.heap.size ≤ b) (fun q _ h e => by omega))) (fun b _ h => unhide HNEW b (by omega))).congr fun j _ => ?_
      unfold insf
      split
      · rfl
      · split
        · exact (unhide HE8).symm
        · rfl
    · rcases Nat.lt_trichotomy j i with h | h | h
      · rw [insf_lt h]; exact ((unhide HN).items j (by omega)).stays hst
      · subst h; rw [insf_eq]; exact ((unhide HN2).items 8 (by omega)).stays hst
      · rw [insf_gt h]; exact ((unhide HN).items (j - 1) (by omega)).stays hst
    · refine (Row.mono (S' := S) (Row.stays hrow4 (Step.alloc 0 _ _).stays) (fun b _ h => unhide HNEW b h)).congr fun j _ => ?_
      unfold insf updf
      split
      · split <;> rfl
      · split
        · rfl
        · split <;> rfl
    · rcases Nat.lt_trichotomy j i with h | h | h
      · rw [insf_lt h, insf_lt h, updf_ne (by omega), updf_ne (by omega)]; exact (unhide HK j (by omega)).stays hst
      · subst h; rw [insf_eq, insf_eq]; exact (hTl3.stays hst8).mono (fun q _ h => h.1)
      · rw [insf_gt h, insf_gt h]
        by_cases e : j - 1 = i
        · rw [e, updf_eq, updf_eq]; exact (hTr3.stays hst8).mono (fun q _ h => h.1)
        · rw [updf_ne e, updf_ne e]; exact (unhide HK (j - 1) (by omega)).stays hst
end Go.Proofs.YthcljhfankooaabGreat
