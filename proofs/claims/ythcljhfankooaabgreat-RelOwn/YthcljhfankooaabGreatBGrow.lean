/- A tree with a tuple that was not in it, and with a node above the uppermost one. -/
import Derived.Test.YthcljhfankooaabGreatBWith
namespace Go.Proofs.YthcljhfankooaabGreat
open Go.RowKit Go.Shelf

theorem PutIn.empty (o : List Int) (x : Item) : PutIn o x [] [x] := ⟨[], [], rfl, rfl, fun _ h => (by cases h), fun _ h => (by cases h)⟩
theorem one_cells {w : World} {b : Nat} {x : Value} {t : TypeId} (h : w.heap[b]? = some (.cells #[x] t (0, 0))) : w.cell? ⟨b, 0, none⟩ = some x := by simp [World.cell?, h]
/-- A row of one. -/
theorem Row.one {S : Nat → Prop} {w : World} {b : Nat} {x : Value} {t : TypeId} {f : Nat → Value} (h : w.heap[b]? = some (.cells #[x] t (0, 0))) (hS : S b) (hf : f 0 = x) : Row S w (.slice (some ⟨b, 0, none⟩) 1 1) 1 f :=
  ⟨_, _, rfl, Nat.le_refl _, by omega, fun j hj => ⟨b, 0, rfl, hS, by obtain rfl : j = 0 := by omega
                                                                      rw [hf]; exact one_cells h⟩⟩
theorem Row.two {S : Nat → Prop} {w : World} {b : Nat} {x y : Value} {t : TypeId} {f : Nat → Value} (h : w.heap[b]? = some (.cells #[x, y] t (0, 0))) (hS : S b) (h0 : f 0 = x) (h1 : f 1 = y) : Row S w (.slice (some ⟨b, 0, none⟩) 2 2) 2 f :=
  ⟨_, _, rfl, Nat.le_refl _, by omega, fun j hj => ⟨b, 0, rfl, hS, by
    rcases (show j = 0 ∨ j = 1 by omega) with rfl | rfl
    · rw [h0]; exact (new_cells h).1
    · rw [h1]; exact (new_cells h).2⟩⟩

set_option maxRecDepth 100000 in
set_option maxHeartbeats 4000000 in
theorem grown_any (S : Nat → Prop) (w : World) (d : Nat) (p : Option Addr) (l : List Item) (hT : Tree S w (d + 1) 16 p l) (hnew : NewIn S w) :
    Calls Tryz.prog 92 #[.pointer p] w fun e w' => ∃ p', e = .returned (.pointer p') ∧ (∃ d', Tree S w' (d' + 1) 15 p' l) ∧ Below w.heap.size w w' := by
  obtain ⟨b, n, tv, kv, t, c, k, rfl, rfl, hN, hk⟩ := hT
  obtain ⟨ta, tc, rfl, htc, _⟩ := id hN.row
  have h0 := hN.c0
  have hlen := hN.len
  by_cases h15 : n ≤ 15
  · have FIN : Hid (Tree S w (d + 1) 15 (some ⟨b, 0, none⟩) (seg c t 0 n)) := ⟨b, n, _, kv, t, c, k, rfl, rfl, { hN with len := h15 }, hk⟩
    clear hN hk hnew
    go_enter Tryz.func92, Tryz.ntmps92
    go_wp2_with fail
    go_ret
    exact ⟨_, rfl, ⟨d, unhide FIN⟩, Below.refl _ _⟩
  · obtain rfl : n = 16 := by omega
    have hs := split_any S w d b 16 _ kv t c k hN (by omega) hk hnew
    obtain ⟨sa8, sc8, e8, _⟩ := id (hN.items 8 (by omega))
    have HE8 := hide e8
    have HN := hide hN
    have HNEW := hide hnew
    rw [e8] at hs
    clear hN hk hnew e8
    go_enter Tryz.func92, Tryz.ntmps92
    go_wp2_with fail
    refine hs.mono ?_
    clear hs
    rintro e w2 ⟨lb, rb, rfl, hTl, hTr, hb⟩
    have HT := hide (And.intro hTl hTr)
    clear hTl hTr
    go_wp2_with fail
    go_ret
    obtain ⟨hTl, hTr⟩ := unhide HT
    have hs := hb.size
    obtain ⟨W, hW⟩ : ∃ W, W = ((w2.alloc (.cells #[.slice sa8 (t 8).2.length sc8] 32)).alloc (.cells #[.pointer (some ⟨lb, 0, none⟩), .pointer (some ⟨rb, 0, none⟩)] 100)).alloc (.cells #[.slice (some ⟨w2.heap.size, 0, none⟩) 1 1, .slice (some ⟨w2.heap.size + 1, 0, none⟩) 2 2] 171) := ⟨_, rfl⟩
    rw [← hW]
    have hB2 : Below w2.heap.size w2 W := by rw [hW]; exact (((Below.refl _ w2).alloc (Nat.le_refl _) _).alloc (by simp) _).alloc (by simp; omega) _
    have g0 : W.heap[w2.heap.size]? = some (.cells #[.slice sa8 (t 8).2.length sc8] 32 (0, 0)) := by
      rw [hW, Below.heap_alloc _ _ _ (by simp; omega), Below.heap_alloc _ _ _ (by simp)]; exact World.alloc_heap_new _ _
    have g1 : W.heap[w2.heap.size + 1]? = some (.cells #[.pointer (some ⟨lb, 0, none⟩), .pointer (some ⟨rb, 0, none⟩)] 100 (0, 0)) := by
      rw [hW, Below.heap_alloc _ _ _ (by simp)]
      have := World.alloc_heap_new (w2.alloc (.cells #[.slice sa8 (t 8).2.length sc8] 32)) (.cells #[.pointer (some ⟨lb, 0, none⟩), .pointer (some ⟨rb, 0, none⟩)] 100)
      rw [World.size_alloc] at this
      exact this
    have g2 : W.heap[w2.heap.size + 1 + 1]? = some (.cells #[.slice (some ⟨w2.heap.size, 0, none⟩) 1 1, .slice (some ⟨w2.heap.size + 1, 0, none⟩) 2 2] 171 (0, 0)) := by
      rw [hW]
      have := World.alloc_heap_new ((w2.alloc (.cells #[.slice sa8 (t 8).2.length sc8] 32)).alloc (.cells #[.pointer (some ⟨lb, 0, none⟩), .pointer (some ⟨rb, 0, none⟩)] 100)) (.cells #[.slice (some ⟨w2.heap.size, 0, none⟩) 1 1, .slice (some ⟨w2.heap.size + 1, 0, none⟩) 2 2] 171)
      rw [World.size_alloc, World.size_alloc] at this
      exact this
    have hB : Below w.heap.size w W := hb.trans (hB2.mono hs)
    have hst : Stays S w2 W := Stays.of_below hB2
    refine ⟨_, rfl, ⟨d + 1, w2.heap.size + 1 + 1, 1, _, _, fun _ => t 8, fun j => if j = 0 then seg c t 0 8 else seg c t 9 7, fun j => if j = 0 then some ⟨lb, 0, none⟩ else some ⟨rb, 0, none⟩, rfl, ?_,
      ⟨unhide HNEW _ (by omega), (new_cells g2).1, (new_cells g2).2, Row.one g0 (unhide HNEW _ (by omega)) (unhide HE8), fun j _ => ((unhide HN).items 8 (by omega)).stays (Stays.of_below hB), by omega, fun h => by omega, fun _ => Row.two g1 (unhide HNEW _ (by omega)) rfl rfl⟩, fun j hj => ?_⟩, hB⟩
    · rw [seg_halves]; simp [seg]
    · by_cases e : j = 0
      · simp only [e, if_true]; exact hTl.stays hst
      · simp only [e, if_false]; exact hTr.stays hst

set_option maxRecDepth 100000 in
set_option maxHeartbeats 4000000 in
theorem with_any (S : Nat → Prop) (ov xv : Value) (o xl : List Int) (hr : right o = true) (hx : xl.length = o.length) : ∀ (d : Nat) (w : World) (p : Option Addr) (l : List Item), Ints w.heap.size w ov o → IntsS S w xv xl → Tree S w d 15 p l → Rises o l → hasI xl l = false → NewIn S w →
    Calls Tryz.prog 91 #[.pointer p, ov, xv] w fun e w' => ∃ p', e = .returned (.pointer p') ∧ (∃ l', Tree S w' (d - 1 + 1) 16 p' l' ∧ PutIn o (xv, xl) l l') ∧ Below w.heap.size w w' := by
  intro d
  induction d with
  | zero =>
    intro w p l ho hxv hT hR hnot hnew
    obtain ⟨rfl, rfl⟩ := hT
    have HXI := hide hxv
    obtain ⟨oa, oc, rfl, _⟩ := id ho
    obtain ⟨xa, xc, rfl, _⟩ := id hxv
    have HX := hide hx
    have HNEW := hide hnew
    clear hx hxv hnew
    go_enter Tryz.func91, Tryz.ntmps91
    go_wp2_with fail
    go_ret
    obtain ⟨W, hW⟩ : ∃ W, W = (w.alloc (.cells #[.slice xa xl.length xc] 32)).alloc (.cells #[.slice (some ⟨w.heap.size, 0, none⟩) 1 1, .slice none 0 0] 171) := ⟨_, rfl⟩
    rw [← hW]
    have hB : Below w.heap.size w W := by rw [hW]; exact ((Below.refl _ w).alloc (Nat.le_refl _) _).alloc (by simp) _
    have g0 : W.heap[w.heap.size]? = some (.cells #[.slice xa xl.length xc] 32 (0, 0)) := by
      rw [hW, Below.heap_alloc _ _ _ (by simp)]; exact World.alloc_heap_new _ _
    have g1 : W.heap[w.heap.size + 1]? = some (.cells #[.slice (some ⟨w.heap.size, 0, none⟩) 1 1, .slice none 0 0] 171 (0, 0)) := by
      rw [hW]
      have := World.alloc_heap_new (w.alloc (.cells #[.slice xa xl.length xc] 32)) (.cells #[.slice (some ⟨w.heap.size, 0, none⟩) 1 1, .slice none 0 0] 171)
      rw [World.size_alloc] at this
      exact this
    refine ⟨_, rfl, ⟨[(.slice xa xl.length xc, xl)], ⟨w.heap.size + 1, 1, _, _, fun _ => (.slice xa xl.length xc, xl), fun _ => [], fun _ => none, rfl, rfl, ⟨unhide HNEW _ (by omega), (new_cells g1).1, (new_cells g1).2, Row.one g0 (unhide HNEW _ (by omega)) rfl, fun j _ => (unhide HXI).stays (Stays.of_below hB), by omega, fun _ => ⟨rfl, fun _ => rfl⟩, fun h => absurd rfl h⟩, fun j _ => ⟨rfl, rfl⟩⟩,
      PutIn.empty o _⟩, hB⟩
  | succ d ih =>
    intro w p l ho hxv hT hR hnot hnew
    obtain ⟨b, n, tv, kv, t, c, k, rfl, rfl, hN, hk⟩ := hT
    have hf := find_any S w d 15 b n ov tv kv xv o xl t k c hN (by omega) hr hx ho hxv.ints hR
    have HXI := hide hxv
    obtain ⟨oa, oc, rfl, _⟩ := id ho
    obtain ⟨xa, xc, rfl, _⟩ := id hxv
    obtain ⟨ta, tc, rfl, _⟩ := id hN.row
    have HX := hide hx
    have HO := hide ho
    have HN := hide hN
    have HK := hide hk
    have HR := hide hR
    have HNOT := hide hnot
    have HNEW := hide hnew
    have h15 := hN.len
    have hblt : b < w.heap.size := by obtain ⟨_, h, _⟩ := cells_of_cell hN.c0; exact lt_heap h
    clear hxv hx ho hN hk hR hnot hnew
    go_enter Tryz.func91, Tryz.ntmps91
    go_wp2_with fail
    refine hf.mono ?_
    clear hf
    rintro e w1 ⟨i, rfl, hp, hb⟩
    have hst1 : Stays S w w1 := Stays.of_below hb
    have hkid := kid_any S w1 d 15 b n i _ kv t k ((unhide HN).stays hst1) hp.1
    have HPUT : Hid (∀ c', PutIn o (.slice xa xl.length xc, xl) (c i) c' → PutIn o (.slice xa xl.length xc, xl) (seg c t 0 n) (up c t i ++ (c' ++ bk c t i n))) := fun c' h => PutIn.node hr (unhide HR) (unhide HX) (unhide HNOT) hp.1 hp.2.1 hp.2.2 h
    have hi := hp.1
    have HP := hide hp
    generalize found o xl t n i = fnd
    clear hp
    go_wp2_with fail
    refine hkid.mono ?_
    clear hkid
    rintro e w1' ⟨rfl, hw1⟩
    have hw1' := hw1.symm
    subst hw1'
    cases d with
    | zero =>
      have hk0 := ((unhide HN).leaf rfl).2 i
      have hcl := cloneT_any S w1 (.slice ta n tc) n (fun j => (t j).1) ((unhide HN).row.stays hst1) (fun j hj => slice_one ((unhide HN).items j hj)) (by omega)
      have q0 := (hb.cell (p := ⟨b, 0, none⟩) hblt).trans (unhide HN).c0
      rw [hk0]
      have HB := hide hb
      clear ih hk0 hb hst1
      go_wp2_with fail
      refine hcl.mono ?_
      clear hcl
      rintro e w4 ⟨r2, rfl, hown2, hb4⟩
      have hne2 : r2.ownBlock ≠ some w4.heap.size := fun e => by have := (World.ownsRow.lt hown2 _ e).2; omega
      have hins := insT_any w1.heap.size (w4.alloc (.cells #[.slice xa xl.length xc] 32)) r2 n i w4.heap.size (fun j => (t j).1) (.slice xa xl.length xc) (World.ownsRow.alloc hown2 _) hi (by omega) (fun j hj => slice_one ((unhide HN).items j hj)) rfl (World.alloc_heap_new _ _) hne2 (by have := hb4.size; simp; omega)
      have HR2 : Hid (∀ b, r2.ownBlock = some b → w1.heap.size ≤ b) := fun b e => (World.ownsRow.lt hown2 b e).1
      have HB4 := hide hb4
      have hr2 : ∃ a2 c2', r2 = .slice a2 n c2' := by
        rcases hown2.2 with ⟨e, e0⟩ | ⟨g', cap', cur, e, _⟩
        · exact ⟨none, 0, by rw [e, e0]⟩
        · exact ⟨_, _, e⟩
      obtain ⟨ra2, rc2, rfl⟩ := hr2
      clear hown2 hb4 hne2 q0
      go_wp2_with fail
      refine hins.mono ?_
      clear hins
      rintro e w6 ⟨r3, rfl, hrow3, hk6⟩
      have hb16 : Below w1.heap.size w1 w6 := (((unhide HB4).alloc (unhide HB4).size _).trans (hk6.below (by have := (unhide HB4).size; simp; omega) (unhide HR2)))
      obtain ⟨ra3, rc3, rfl, _⟩ := id hrow3
      have HW6 := hide (And.intro hb16 hrow3)
      clear hb16 hrow3 hk6
      go_wp2_with fail
      go_ret
      obtain ⟨hb16, hrow3⟩ := unhide HW6
      have hs := (unhide HB).size
      have hs6 := hb16.size
      have hB : Below w.heap.size w (w6.alloc (.cells #[.slice ra3 (n + 1) rc3, .slice none 0 0] 171)) := ((unhide HB).trans (hb16.mono hs)).alloc (by omega) _
      have hnw := World.alloc_heap_new w6 (.cells #[.slice ra3 (n + 1) rc3, .slice none 0 0] 171)
      have hst : Stays S w (w6.alloc (.cells #[.slice ra3 (n + 1) rc3, .slice none 0 0] 171)) := Stays.of_below hB
      have hci : c i = [] := (unhide HK i hi).2
      have hput := unhide HPUT [(.slice xa xl.length xc, xl)] (by rw [hci]; exact PutIn.empty o _)
      refine ⟨_, rfl, ⟨_, ⟨w6.heap.size, n + 1, .slice ra3 (n + 1) rc3, .slice none 0 0, insf t i (.slice xa xl.length xc, xl), fun _ => [], fun _ => none, rfl, ?_, ⟨unhide HNEW _ (by omega), (new_cells hnw).1, (new_cells hnw).2, ?_, fun j hj => ?_, by omega, fun _ => ⟨rfl, fun _ => rfl⟩, fun h => absurd rfl h⟩, fun j _ => ⟨rfl, rfl⟩⟩, hput⟩, hB⟩
      · have e1 := seg_ins c t i n [] [] (.slice xa xl.length xc, xl) hi
        rw [List.nil_append] at e1
        rw [show ([(Value.slice xa xl.length xc, xl)] : List Item) = (Value.slice xa xl.length xc, xl) :: [] from rfl, ← e1]
        refine (seg_congr (n + 1) 0 (fun j _ hj => ?_) (fun _ _ _ => rfl))
        have hc : ∀ q, q ≤ n → c q = [] := fun q hq => (unhide HK q hq).2
        unfold insf updf
        split
        · split
          · rfl
          · exact hc j (by omega)
        · split
          · rfl
          · split
            · rfl
            · exact hc (j - 1) (by omega)
      · refine (Row.mono (S' := S) (Row.stays hrow3 (Step.alloc 0 _ _).stays) (fun b _ h => unhide HNEW b (by omega))).congr fun j _ => ?_
        unfold insf
        split
        · rfl
        · split <;> rfl
      · rcases Nat.lt_trichotomy j i with h | h | h
        · rw [insf_lt h]; exact ((unhide HN).items j (by omega)).stays hst
        · subst h; rw [insf_eq]; exact (unhide HXI).stays hst
        · rw [insf_gt h]; exact ((unhide HN).items (j - 1) (by omega)).stays hst
    | succ d =>
      have hTk := (unhide HK i hi).stays hst1
      have hrec := ih w1 (k i) (c i) (((unhide HO).below hb (Nat.le_refl _)).mono hb.size) ((unhide HXI).stays hst1) hTk ((unhide HR).kid hi) (by
        have h := unhide HNOT
        rw [hasI_node hr (unhide HR) (unhide HX) hi (unhide HP).2.1 (unhide HP).2.2, Bool.or_eq_false_iff] at h
        exact h.2) ((unhide HNEW).later hb.size)
      obtain ⟨kb, hkb⟩ : ∃ kb, k i = some ⟨kb, 0, none⟩ := by obtain ⟨kb, _, _, _, _, _, _, e, _⟩ := hTk; exact ⟨kb, e⟩
      rw [hkb] at hrec ⊢
      have HB := hide hb
      clear ih hTk hst1 hb
      go_wp2_with fail
      refine hrec.mono ?_
      clear hrec
      rintro e w2 ⟨p', rfl, ⟨l', hT', hput⟩, hb2⟩
      have hb02 : Below w.heap.size w w2 := (unhide HB).trans (hb2.mono (unhide HB).size)
      have hst2 : Stays S w w2 := Stays.of_below hb02
      have had := adopt_any S w2 d b n i _ kv t c k ((unhide HN).stays hst2) (fun j hj => (unhide HK j hj).stays hst2) hi p' l' hT' ((unhide HNEW).later hb02.size)
      have HB02 := hide hb02
      have HPP := hide hput
      clear hput hT' hb2 hb02 hst2
      go_wp2_with fail
      refine had.mono ?_
      clear had
      rintro e w3 ⟨p3, rfl, hT3, hb3⟩
      have HT3 := hide hT3
      clear hT3
      go_wp2_with fail
      go_ret
      exact ⟨p3, rfl, ⟨_, unhide HT3, unhide HPUT _ (unhide HPP)⟩, (unhide HB02).trans (hb3.mono (unhide HB02).size)⟩
end Go.Proofs.YthcljhfankooaabGreat
