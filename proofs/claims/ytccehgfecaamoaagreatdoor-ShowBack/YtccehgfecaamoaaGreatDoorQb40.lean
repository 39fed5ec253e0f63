/- The document's Same, places aside. The document's Same of any two programs, places aside. -/
import Derived.Test.YtccehgfecaamoaaGreatDoorQb36
import Derived.Test.YtccehgfecaamoaaGreatDoorQb37
import Derived.Test.YtccehgfecaamoaaGreatDoorQb38
import Derived.Test.YtccehgfecaamoaaGreatDoorQb39
set_option maxRecDepth 100000
set_option maxHeartbeats 32000000
namespace Go.Proofs.YtccehgfecaamoaaGreatDoor
section
open Go.RowKit Go.Maps
abbrev mLErg0 : List (Nat × Bool) := [(0, true), (1, true), (2, true), (3, true), (4, true), (5, true), (6, true), (7, true), (8, true), (9, true), (10, true), (11, true), (12, true), (13, true), (14, true), (15, true), (16, true), (17, true), (18, true), (19, true), (20, true), (21, true), (22, true), (23, true), (24, true), (25, true), (26, true), (27, true), (28, true), (29, true), (30, true), (31, true), (32, true), (33, true), (34, true), (35, true), (36, true), (37, true), (38, true), (39, true), (40, true), (41, true), (42, false), (43, true), (44, true)]
abbrev mLErg1 : List (Nat × Bool) := [(0, true), (1, true), (2, true), (3, true), (4, true), (5, true), (6, true), (7, true), (8, true), (9, true), (10, true), (11, false), (12, true)]

attribute [local go_sem ↓] Qn
theorem Jbc {p r : Pg} {S : Nat → Prop} {w : World} {x0a y0a x1a y1a x2a y2a x3a y3a x4a y4a : Option Addr} {x0n x0c y0n y0c x1n x1c y1n y1c x2n x2c y2n y2c x3n x3c y3n y3c x4n x4c y4n y4c : Nat}
  (h0 : LsAt PTy 4 S w (.slice x0a x0n x0c) p.types) (h1 : LsAt PDc 5 S w (.slice x1a x1n x1c) p.decls) (h3 : LsAt PIn 3 S w (.slice x3a x3n x3c) p.inits) (h4 : LsAt PCl 5 S w (.slice x4a x4n x4c) p.clauses)
  (g0 : LsAt PTy 4 S w (.slice y0a y0n y0c) r.types) (g1 : LsAt PDc 5 S w (.slice y1a y1n y1c) r.decls) (g3 : LsAt PIn 3 S w (.slice y3a y3n y3c) r.inits) (g4 : LsAt PCl 5 S w (.slice y4a y4n y4c) r.clauses)
  (hc : ∀ w', Below w.heap.size w w' → Calls Tryz.prog 19 #[.slice x2a x2n x2c, .slice y2a y2n y2c, .bool false] w' fun en w2 => en = .returned (.bool (eqL eqCp p.comps r.comps)) ∧ Below w'.heap.size w' w2) :
  Calls Tryz.prog 9 #[.agg #[.slice x0a x0n x0c, .slice x1a x1n x1c, .slice x2a x2n x2c, .slice x3a x3n x3c, .slice x4a x4n x4c], .agg #[.slice y0a y0n y0c, .slice y1a y1n y1c, .slice y2a y2n y2c, .slice y3a y3n y3c, .slice y4a y4n y4c], .bool false] w fun en w' => en = .returned (.bool (eqPg p r)) ∧ Below w.heap.size w w' := by
 have l1 : x3n = p.inits.length ∧ x3n ≤ x3c ∧ x3c ≤ maxLen := by
  obtain ⟨_, _, _, e, k1, k2, _⟩ := h3
  cases e
  exact ⟨rfl, k1, k2⟩
 have l2 : y3n = r.inits.length ∧ y3n ≤ y3c ∧ y3c ≤ maxLen := by
  obtain ⟨_, _, _, e, k1, k2, _⟩ := g3
  cases e
  exact ⟨rfl, k1, k2⟩
 have l3 : x4n = p.clauses.length ∧ x4n ≤ x4c ∧ x4c ≤ maxLen := by
  obtain ⟨_, _, _, e, k1, k2, _⟩ := h4
  cases e
  exact ⟨rfl, k1, k2⟩
 have l4 : y4n = r.clauses.length ∧ y4n ≤ y4c ∧ y4c ≤ maxLen := by
  obtain ⟨_, _, _, e, k1, k2, _⟩ := g4
  cases e
  exact ⟨rfl, k1, k2⟩
 unfold maxLen at l1 l2 l3 l4
 obtain ⟨l1, l1a, l1b⟩ := l1
 obtain ⟨l2, l2a, l2b⟩ := l2
 obtain ⟨l3, l3a, l3b⟩ := l3
 obtain ⟨l4, l4a, l4b⟩ := l4
 obtain ⟨W0, hW0⟩ : ∃ W0, W0 = (w.alloc (.cells #[.slice x0a x0n x0c, .slice x1a x1n x1c, .slice x2a x2n x2c, .slice x3a x3n x3c, .slice x4a x4n x4c] 28)).alloc (.cells #[.slice y0a y0n y0c, .slice y1a y1n y1c, .slice y2a y2n y2c, .slice y3a y3n y3c, .slice y4a y4n y4c] 28) := ⟨_, rfl⟩
 have B0 : Below w.heap.size w W0 := by rw [hW0]; exact ((Below.refl _ w).alloc (Nat.le_refl _) _).alloc (by simp) _
 have na : W0.heap[w.heap.size]? = some (.cells #[.slice x0a x0n x0c, .slice x1a x1n x1c, .slice x2a x2n x2c, .slice x3a x3n x3c, .slice x4a x4n x4c] 28 (0, 0)) := by rw [hW0, Below.heap_alloc _ _ _ (by simp)]; exact heap_alloc_new w _
 have nb : W0.heap[w.heap.size + 1]? = some (.cells #[.slice y0a y0n y0c, .slice y1a y1n y1c, .slice y2a y2n y2c, .slice y3a y3n y3c, .slice y4a y4n y4c] 28 (0, 0)) := by
  rw [hW0]
  have := heap_alloc_new (w.alloc (.cells #[.slice x0a x0n x0c, .slice x1a x1n x1c, .slice x2a x2n x2c, .slice x3a x3n x3c, .slice x4a x4n x4c] 28)) (.cells #[.slice y0a y0n y0c, .slice y1a y1n y1c, .slice y2a y2n y2c, .slice y3a y3n y3c, .slice y4a y4n y4c] 28)
  rw [show (w.alloc (.cells #[.slice x0a x0n x0c, .slice x1a x1n x1c, .slice x2a x2n x2c, .slice x3a x3n x3c, .slice x4a x4n x4c] 28)).heap.size = w.heap.size + 1 by simp] at this
  exact this
 obtain ⟨kx, hkx⟩ : ∃ kx, w.heap.size = kx := ⟨_, rfl⟩
 obtain ⟨ky, hky⟩ : ∃ ky, w.heap.size + 1 = ky := ⟨_, rfl⟩
 rw [hkx] at na
 rw [hky] at nb
 have hcl := Qtp (h0.later Qbq B0) (g0.later Qbq B0)
 have BB0 := hide (Ya B0 (Ya na nb))
 have HW0 := hide (Ya hW0 (Ya hkx hky))
 have HG := hide (Ya h1 (Ya g1 (Ya hc (Ya h3 (Ya g3 (Ya h4 g4))))))
 have HL := hide (Ya l1 (Ya l2 (Ya l3 l4)))
 obtain ⟨s0, hs0⟩ : ∃ s0, s0 = eqL eqTy p.types r.types := ⟨_, rfl⟩
 rw [← hs0] at hcl
 have S0 := hide hs0
 clear hs0 B0 na nb hW0 h0 h1 h3 h4 g0 g1 g3 g4 hc l1 l2 l3 l4 hkx hky
 go_enter Tryz.func9, Tryz.ntmps9
 go_wp2_with fail
 rw [← (Qa HW0).1]
 refine hcl.mono ?_
 clear hcl
 rintro en w1 ⟨rfl, b1⟩
 obtain ⟨bb, na, nb⟩ := Qa BB0
 have na1 := (b1.block _ (Qag na)).trans na
 have nb1 := (b1.block _ (Qag nb)).trans nb
 have BB1 := hide (Ya (bb.trans (b1.mono bb.size)) (Ya na1 nb1))
 clear bb na nb b1 na1 nb1
 cases s0
 ·
  clear HW0
  go_wp2_with fail
  go_ret
  exact ⟨by rw [Qcx, ← Qa S0]; rfl, (Qa BB1).1⟩
 rw [(Qa HW0).2.2, (Qa HW0).2.1]
 clear HW0
 obtain ⟨x_0, x_1, x_2, x_3, x_4, xf⟩ := cl5 (Qa BB1).2.1
 obtain ⟨y_0, y_1, y_2, y_3, y_4, yf⟩ := cl5 (Qa BB1).2.2
 have hcl := Qtn ((Qa HG).1.later Qbp (Qa BB1).1) ((Qa HG).2.1.later Qbp (Qa BB1).1)
 obtain ⟨s1, hs1⟩ : ∃ s1, s1 = eqL eqDc p.decls r.decls := ⟨_, rfl⟩
 rw [← hs1] at hcl
 have S1 := hide hs1
 clear hs1
 go_wp2_with fail
 refine hcl.mono ?_
 clear hcl
 rintro en w2 ⟨rfl, b1⟩
 obtain ⟨bb, na, nb⟩ := Qa BB1
 have na1 := (b1.block _ (Qag na)).trans na
 have nb1 := (b1.block _ (Qag nb)).trans nb
 have BB2 := hide (Ya (bb.trans (b1.mono bb.size)) (Ya na1 nb1))
 clear bb na nb b1 na1 nb1
 clear x_0 x_1 x_2 x_3 x_4 xf y_0 y_1 y_2 y_3 y_4 yf
 cases s1
 ·
  go_wp2_with fail
  go_ret
  exact ⟨by rw [Qcx, ← Qa S0, ← Qa S1]; rfl, (Qa BB2).1⟩
 obtain ⟨x_0, x_1, x_2, x_3, x_4, xf⟩ := cl5 (Qa BB2).2.1
 obtain ⟨y_0, y_1, y_2, y_3, y_4, yf⟩ := cl5 (Qa BB2).2.2
 have hcl := (Qa HG).2.2.1 w2 (Qa BB2).1
 obtain ⟨s2, hs2⟩ : ∃ s2, s2 = eqL eqCp p.comps r.comps := ⟨_, rfl⟩
 rw [← hs2] at hcl
 have S2 := hide hs2
 clear hs2
 go_wp2_with fail
 refine hcl.mono ?_
 clear hcl
 rintro en w3 ⟨rfl, b1⟩
 obtain ⟨bb, na, nb⟩ := Qa BB2
 have na1 := (b1.block _ (Qag na)).trans na
 have nb1 := (b1.block _ (Qag nb)).trans nb
 have BB3 := hide (Ya (bb.trans (b1.mono bb.size)) (Ya na1 nb1))
 clear bb na nb b1 na1 nb1
 clear x_0 x_1 x_2 x_3 x_4 xf y_0 y_1 y_2 y_3 y_4 yf
 cases s2
 ·
  go_wp2_with fail
  go_ret
  exact ⟨by rw [Qcx, ← Qa S0, ← Qa S1, ← Qa S2]; rfl, (Qa BB3).1⟩
 obtain ⟨x_0, x_1, x_2, x_3, x_4, xf⟩ := cl5 (Qa BB3).2.1
 obtain ⟨y_0, y_1, y_2, y_3, y_4, yf⟩ := cl5 (Qa BB3).2.2
 by_cases hl3 : x3n = y3n
 ·
  subst hl3
  by_cases hl4 : x4n = y4n
  ·
   subst hl4
   go_wp2_with fail
   clear x_0 x_1 x_2 x_3 x_4 xf y_0 y_1 y_2 y_3 y_4 yf
   go_loopw [7] (fun i wr => ∃ j : Nat, i = .int .i64 (j : Int) ∧ j ≤ x3n ∧ Hid (Below w3.heap.size w3 wr ∧ ∀ q u v, q < j → p.inits[q]? = some u → r.inits[q]? = some v → eqIn u v = true)) (fun i _ => x3n - (intOf i).toNat)
   case atStart => exact ⟨0, rfl, Nat.zero_le _, hide ⟨Below.refl _ _, fun q _ _ hq => absurd hq (Nat.not_lt_zero _)⟩⟩
   obtain ⟨j, rfl, hj, HB⟩ := hrel
   obtain ⟨bw, hall⟩ := Qa HB
   obtain ⟨bb, na, nb⟩ := Qa BB3
   have na1 := (bw.block _ (Qag na)).trans na
   have nb1 := (bw.block _ (Qag nb)).trans nb
   obtain ⟨x_0, x_1, x_2, x_3, x_4, xf⟩ := cl5 na1
   obtain ⟨y_0, y_1, y_2, y_3, y_4, yf⟩ := cl5 nb1
   by_cases hlt : j < x3n
   ·
    obtain ⟨l1, l2, l3, l4⟩ := Qa HL
    obtain ⟨h1, g1, hc, h3, g3, h4, g4⟩ := Qa HG
    have bt : Below w.heap.size w wr := bb.trans (bw.mono bb.size)
    obtain ⟨u, hu⟩ : ∃ u, p.inits[j]? = some u := ⟨p.inits[j]'(by omega), List.getElem?_eq_getElem _⟩
    obtain ⟨v, hv⟩ : ∃ v, r.inits[j]? = some v := ⟨r.inits[j]'(by omega), List.getElem?_eq_getElem _⟩
    obtain ⟨b1, q1, cs1, ev1, hb1, _, hl1, hp1, hc1'⟩ := (h3.later Qbw bt).elem hu
    obtain ⟨b2, q2, cs2, ev2, hb2, _, hl2, hp2, hc2'⟩ := (g3.later Qbw bt).elem hv
    have ec1 : cs1 = [str u.name, str u.comp, .int .i64 u.at_] := hp1
    have ec2 : cs2 = [str v.name, str v.comp, .int .i64 v.at_] := hp2
    subst ec1
    subst ec2
    simp only [Value.slice.injEq] at ev1 ev2
    obtain ⟨rfl, -, -⟩ := ev1
    obtain ⟨rfl, -, -⟩ := ev2
    have HC : Hid (∀ w', Below wr.heap.size wr w' → w'.heap[kx]? = some (.cells #[.slice x0a x0n x0c, .slice x1a x1n x1c, .slice x2a x2n x2c, .slice (some ⟨b1, 0, none⟩) x3n x3c, .slice x4a x4n x4c] 28 (0, 0)) ∧ w'.heap[ky]? = some (.cells #[.slice y0a y0n y0c, .slice y1a y1n y1c, .slice y2a y2n y2c, .slice (some ⟨b2, 0, none⟩) x3n y3c, .slice y4a x4n y4c] 28 (0, 0)) ∧ (∀ q c, ([str u.name, str u.comp, .int .i64 u.at_] : List Value)[q]? = some c → w'.cell? ⟨b1, j * 3 + q, none⟩ = some c) ∧ (∀ q c, ([str v.name, str v.comp, .int .i64 v.at_] : List Value)[q]? = some c → w'.cell? ⟨b2, j * 3 + q, none⟩ = some c)) := fun w' bb => ⟨(bb.block _ (Qag na1)).trans na1, (bb.block _ (Qag nb1)).trans nb1, fun q c hq => by rw [bb.cell (p := ⟨b1, _, none⟩) hb1]; exact hc1' q c hq, fun q c hq => by rw [bb.cell (p := ⟨b2, _, none⟩) hb2]; exact hc2' q c hq⟩
    clear bb na nb na1 nb1 l1 l2 l3 l4 h1 g1 hc h3 g3 h4 g4 bt hb1 hb2 hl1 hl2 hc1' hc2' hp1 hp2 HB
    by_cases e0 : u.name = v.name
    ·
     have g0 : (u.name == v.name) = true := by simpa using e0
     by_cases e1 : u.comp = v.comp
     ·
      have g1 : (u.comp == v.comp) = true := by simpa using e1
      have HF := hide (Ya hu (Ya hv (Ya hall (Ya bw (show eqIn u v = true by unfold eqIn; simp [e0, e1])))))
      clear hu hv hall bw
      clear e0 e1
      go_wp2_with fail
      clear x_0 x_1 x_2 x_3 x_4 xf y_0 y_1 y_2 y_3 y_4 yf
      refine Qak (md := mLErg0) (fun w' => w'.heap[kx]? = some (.cells #[.slice x0a x0n x0c, .slice x1a x1n x1c, .slice x2a x2n x2c, .slice (some ⟨b1, 0, none⟩) x3n x3c, .slice x4a x4n x4c] 28 (0, 0)) ∧ w'.heap[ky]? = some (.cells #[.slice y0a y0n y0c, .slice y1a y1n y1c, .slice y2a y2n y2c, .slice (some ⟨b2, 0, none⟩) x3n y3c, .slice y4a x4n y4c] 28 (0, 0)) ∧ (∀ q c, ([str u.name, str u.comp, .int .i64 u.at_] : List Value)[q]? = some c → w'.cell? ⟨b1, j * 3 + q, none⟩ = some c) ∧ (∀ q c, ([str v.name, str v.comp, .int .i64 v.at_] : List Value)[q]? = some c → w'.cell? ⟨b2, j * 3 + q, none⟩ = some c)) mixedO (by kernel_rfl) rfl (by kernel_rfl) (fun PP hPP => ?_)
      refine Qaa rfl (by kernel_rfl) (fun _ _ => by go_simp <;> rfl) ?_
      refine Qaa rfl (by kernel_rfl) (fun w' hw => by obtain ⟨h_x, h_y, h_1, h_2⟩ := hw; obtain ⟨x_0, x_1, x_2, x_3, x_4, xf⟩ := cl5 h_x; obtain ⟨y_0, y_1, y_2, y_3, y_4, yf⟩ := cl5 h_y; obtain ⟨i_0, i_1, i_2⟩ := cs3 h_1; obtain ⟨j_0, j_1, j_2⟩ := cs3 h_2; go_simp <;> rfl) ?_
      iterate 3 refine Qaa rfl (by kernel_rfl) (fun _ _ => by go_simp <;> rfl) ?_
      refine Qaa rfl (by kernel_rfl) (fun w' hw => by obtain ⟨h_x, h_y, h_1, h_2⟩ := hw; obtain ⟨x_0, x_1, x_2, x_3, x_4, xf⟩ := cl5 h_x; obtain ⟨y_0, y_1, y_2, y_3, y_4, yf⟩ := cl5 h_y; obtain ⟨i_0, i_1, i_2⟩ := cs3 h_1; obtain ⟨j_0, j_1, j_2⟩ := cs3 h_2; go_simp <;> rfl) ?_
      refine Qaa rfl (by kernel_rfl) (fun _ _ => by go_simp <;> rfl) ?_
      refine Qaa rfl (by kernel_rfl) (fun w' hw => by obtain ⟨h_x, h_y, h_1, h_2⟩ := hw; obtain ⟨x_0, x_1, x_2, x_3, x_4, xf⟩ := cl5 h_x; obtain ⟨y_0, y_1, y_2, y_3, y_4, yf⟩ := cl5 h_y; obtain ⟨i_0, i_1, i_2⟩ := cs3 h_1; obtain ⟨j_0, j_1, j_2⟩ := cs3 h_2; go_simp <;> rfl) ?_
      iterate 3 refine Qaa rfl (by kernel_rfl) (fun _ _ => by go_simp <;> rfl) ?_
      refine Qaa rfl (by kernel_rfl) (fun w' hw => by obtain ⟨h_x, h_y, h_1, h_2⟩ := hw; obtain ⟨x_0, x_1, x_2, x_3, x_4, xf⟩ := cl5 h_x; obtain ⟨y_0, y_1, y_2, y_3, y_4, yf⟩ := cl5 h_y; obtain ⟨i_0, i_1, i_2⟩ := cs3 h_1; obtain ⟨j_0, j_1, j_2⟩ := cs3 h_2; go_simp <;> rfl) ?_
      refine Qaa (v := .bool false) rfl (by kernel_rfl) (fun _ _ => by go_simp <;> rfl) ?_
      refine Qaa (v := .bool false) rfl (by kernel_rfl) (fun _ _ => by go_simp <;> rfl) ?_
      refine Qaa rfl (by kernel_rfl) (fun _ _ => by go_simp <;> rfl) ?_
      refine Qaa rfl (by kernel_rfl) (fun w' hw => by obtain ⟨h_x, h_y, h_1, h_2⟩ := hw; obtain ⟨x_0, x_1, x_2, x_3, x_4, xf⟩ := cl5 h_x; obtain ⟨y_0, y_1, y_2, y_3, y_4, yf⟩ := cl5 h_y; obtain ⟨i_0, i_1, i_2⟩ := cs3 h_1; obtain ⟨j_0, j_1, j_2⟩ := cs3 h_2; go_simp <;> rfl) ?_
      iterate 3 refine Qaa rfl (by kernel_rfl) (fun _ _ => by go_simp <;> rfl) ?_
      refine Qaa rfl (by kernel_rfl) (fun w' hw => by obtain ⟨h_x, h_y, h_1, h_2⟩ := hw; obtain ⟨x_0, x_1, x_2, x_3, x_4, xf⟩ := cl5 h_x; obtain ⟨y_0, y_1, y_2, y_3, y_4, yf⟩ := cl5 h_y; obtain ⟨i_0, i_1, i_2⟩ := cs3 h_1; obtain ⟨j_0, j_1, j_2⟩ := cs3 h_2; go_simp <;> rfl) ?_
      refine Qaa rfl (by kernel_rfl) (fun _ _ => by go_simp <;> rfl) ?_
      refine Qaa rfl (by kernel_rfl) (fun w' hw => by obtain ⟨h_x, h_y, h_1, h_2⟩ := hw; obtain ⟨x_0, x_1, x_2, x_3, x_4, xf⟩ := cl5 h_x; obtain ⟨y_0, y_1, y_2, y_3, y_4, yf⟩ := cl5 h_y; obtain ⟨i_0, i_1, i_2⟩ := cs3 h_1; obtain ⟨j_0, j_1, j_2⟩ := cs3 h_2; go_simp <;> rfl) ?_
      iterate 3 refine Qaa rfl (by kernel_rfl) (fun _ _ => by go_simp <;> rfl) ?_
      refine Qaa rfl (by kernel_rfl) (fun w' hw => by obtain ⟨h_x, h_y, h_1, h_2⟩ := hw; obtain ⟨x_0, x_1, x_2, x_3, x_4, xf⟩ := cl5 h_x; obtain ⟨y_0, y_1, y_2, y_3, y_4, yf⟩ := cl5 h_y; obtain ⟨i_0, i_1, i_2⟩ := cs3 h_1; obtain ⟨j_0, j_1, j_2⟩ := cs3 h_2; go_simp <;> rfl) ?_
      refine Qaa (v := .bool false) rfl (by kernel_rfl) (fun _ _ => by go_simp <;> rfl) ?_
      refine Qaa (v := .bool false) rfl (by kernel_rfl) (fun _ _ => by go_simp <;> rfl) ?_
      refine Qaa (v := .bool false) rfl (by kernel_rfl) (fun _ _ => by go_simp <;> rfl) ?_
      refine Qaa rfl (by kernel_rfl) (fun _ _ => by go_simp <;> rfl) ?_
      refine Qaa rfl (by kernel_rfl) (fun w' hw => by obtain ⟨h_x, h_y, h_1, h_2⟩ := hw; obtain ⟨x_0, x_1, x_2, x_3, x_4, xf⟩ := cl5 h_x; obtain ⟨y_0, y_1, y_2, y_3, y_4, yf⟩ := cl5 h_y; obtain ⟨i_0, i_1, i_2⟩ := cs3 h_1; obtain ⟨j_0, j_1, j_2⟩ := cs3 h_2; go_simp <;> rfl) ?_
      iterate 3 refine Qaa rfl (by kernel_rfl) (fun _ _ => by go_simp <;> rfl) ?_
      refine Qaa rfl (by kernel_rfl) (fun w' hw => by obtain ⟨h_x, h_y, h_1, h_2⟩ := hw; obtain ⟨x_0, x_1, x_2, x_3, x_4, xf⟩ := cl5 h_x; obtain ⟨y_0, y_1, y_2, y_3, y_4, yf⟩ := cl5 h_y; obtain ⟨i_0, i_1, i_2⟩ := cs3 h_1; obtain ⟨j_0, j_1, j_2⟩ := cs3 h_2; go_simp <;> rfl) ?_
      refine Qaa rfl (by kernel_rfl) (fun _ _ => by go_simp <;> rfl) ?_
      refine Qaa rfl (by kernel_rfl) (fun w' hw => by obtain ⟨h_x, h_y, h_1, h_2⟩ := hw; obtain ⟨x_0, x_1, x_2, x_3, x_4, xf⟩ := cl5 h_x; obtain ⟨y_0, y_1, y_2, y_3, y_4, yf⟩ := cl5 h_y; obtain ⟨i_0, i_1, i_2⟩ := cs3 h_1; obtain ⟨j_0, j_1, j_2⟩ := cs3 h_2; go_simp <;> rfl) ?_
      iterate 3 refine Qaa rfl (by kernel_rfl) (fun _ _ => by go_simp <;> rfl) ?_
      refine Qaa rfl (by kernel_rfl) (fun w' hw => by obtain ⟨h_x, h_y, h_1, h_2⟩ := hw; obtain ⟨x_0, x_1, x_2, x_3, x_4, xf⟩ := cl5 h_x; obtain ⟨y_0, y_1, y_2, y_3, y_4, yf⟩ := cl5 h_y; obtain ⟨i_0, i_1, i_2⟩ := cs3 h_1; obtain ⟨j_0, j_1, j_2⟩ := cs3 h_2; go_simp <;> rfl) ?_
      refine Qaa rfl (by kernel_rfl) (fun _ _ => by go_simp <;> rfl) ?_
      refine Qal rfl (Qa HC _ ((Below.refl wr.heap.size wr).drew)) (fun K hK => ?_)
      go_simp
      have hcl := Qcd u.at_ v.at_ wr.drew
      refine hcl.mono ?_
      clear hcl
      rintro en u1 ⟨rfl, bu1⟩
      have B1 := hide (((Below.refl wr.heap.size wr).drew).trans (bu1.mono ((Below.refl wr.heap.size wr).drew).size))
      clear bu1
      go_wp2_with fail
      refine Qaa (v := .bool false) rfl (by kernel_rfl) (fun _ _ => by go_simp <;> rfl) ?_
      refine Qaa (v := .bool false) rfl (by kernel_rfl) (fun _ _ => by go_simp <;> rfl) ?_
      refine Qan (Qa HC _ (Qa B1)) (hPP _ _ ?_)
      clear hPP PP
      simp [Act.put, Array.setIfInBounds]
      go_wp2_with fail
      go_roundw
      case rel =>
       obtain ⟨hu, hv, hall, bw, hr⟩ := Qa HF
       refine ⟨j + 1, by go_num, by omega, hide ⟨bw.trans ((Qa B1).mono bw.size), fun q u' v' hq hu' hv' => ?_⟩⟩
       by_cases e : q = j
       ·
        subst e
        rw [hu] at hu'
        rw [hv] at hv'
        cases hu'
        cases hv'
        exact hr
       · exact hall q u' v' (by omega) hu' hv'
      case measure => simp [intOf]; omega
     have g1 : (u.comp == v.comp) = false := by simpa using e1
     have HF := hide (Ya hu (Ya hv (Ya hall (Ya bw (show eqIn u v = false by unfold eqIn; simp [e1])))))
     clear hu hv hall bw
     clear e0 e1
     go_wp2_with fail
     clear x_0 x_1 x_2 x_3 x_4 xf y_0 y_1 y_2 y_3 y_4 yf
     refine Qak (md := mLErg0) (fun w' => w'.heap[kx]? = some (.cells #[.slice x0a x0n x0c, .slice x1a x1n x1c, .slice x2a x2n x2c, .slice (some ⟨b1, 0, none⟩) x3n x3c, .slice x4a x4n x4c] 28 (0, 0)) ∧ w'.heap[ky]? = some (.cells #[.slice y0a y0n y0c, .slice y1a y1n y1c, .slice y2a y2n y2c, .slice (some ⟨b2, 0, none⟩) x3n y3c, .slice y4a x4n y4c] 28 (0, 0)) ∧ (∀ q c, ([str u.name, str u.comp, .int .i64 u.at_] : List Value)[q]? = some c → w'.cell? ⟨b1, j * 3 + q, none⟩ = some c) ∧ (∀ q c, ([str v.name, str v.comp, .int .i64 v.at_] : List Value)[q]? = some c → w'.cell? ⟨b2, j * 3 + q, none⟩ = some c)) mixedO (by kernel_rfl) rfl (by kernel_rfl) (fun PP hPP => ?_)
     refine Qaa rfl (by kernel_rfl) (fun _ _ => by go_simp <;> rfl) ?_
     refine Qaa rfl (by kernel_rfl) (fun w' hw => by obtain ⟨h_x, h_y, h_1, h_2⟩ := hw; obtain ⟨x_0, x_1, x_2, x_3, x_4, xf⟩ := cl5 h_x; obtain ⟨y_0, y_1, y_2, y_3, y_4, yf⟩ := cl5 h_y; obtain ⟨i_0, i_1, i_2⟩ := cs3 h_1; obtain ⟨j_0, j_1, j_2⟩ := cs3 h_2; go_simp <;> rfl) ?_
     iterate 3 refine Qaa rfl (by kernel_rfl) (fun _ _ => by go_simp <;> rfl) ?_
     refine Qaa rfl (by kernel_rfl) (fun w' hw => by obtain ⟨h_x, h_y, h_1, h_2⟩ := hw; obtain ⟨x_0, x_1, x_2, x_3, x_4, xf⟩ := cl5 h_x; obtain ⟨y_0, y_1, y_2, y_3, y_4, yf⟩ := cl5 h_y; obtain ⟨i_0, i_1, i_2⟩ := cs3 h_1; obtain ⟨j_0, j_1, j_2⟩ := cs3 h_2; go_simp <;> rfl) ?_
     refine Qaa rfl (by kernel_rfl) (fun _ _ => by go_simp <;> rfl) ?_
     refine Qaa rfl (by kernel_rfl) (fun w' hw => by obtain ⟨h_x, h_y, h_1, h_2⟩ := hw; obtain ⟨x_0, x_1, x_2, x_3, x_4, xf⟩ := cl5 h_x; obtain ⟨y_0, y_1, y_2, y_3, y_4, yf⟩ := cl5 h_y; obtain ⟨i_0, i_1, i_2⟩ := cs3 h_1; obtain ⟨j_0, j_1, j_2⟩ := cs3 h_2; go_simp <;> rfl) ?_
     iterate 3 refine Qaa rfl (by kernel_rfl) (fun _ _ => by go_simp <;> rfl) ?_
     refine Qaa rfl (by kernel_rfl) (fun w' hw => by obtain ⟨h_x, h_y, h_1, h_2⟩ := hw; obtain ⟨x_0, x_1, x_2, x_3, x_4, xf⟩ := cl5 h_x; obtain ⟨y_0, y_1, y_2, y_3, y_4, yf⟩ := cl5 h_y; obtain ⟨i_0, i_1, i_2⟩ := cs3 h_1; obtain ⟨j_0, j_1, j_2⟩ := cs3 h_2; go_simp <;> rfl) ?_
     refine Qaa (v := .bool false) rfl (by kernel_rfl) (fun _ _ => by go_simp <;> rfl) ?_
     refine Qaa (v := .bool false) rfl (by kernel_rfl) (fun _ _ => by go_simp <;> rfl) ?_
     refine Qaa rfl (by kernel_rfl) (fun _ _ => by go_simp <;> rfl) ?_
     refine Qaa rfl (by kernel_rfl) (fun w' hw => by obtain ⟨h_x, h_y, h_1, h_2⟩ := hw; obtain ⟨x_0, x_1, x_2, x_3, x_4, xf⟩ := cl5 h_x; obtain ⟨y_0, y_1, y_2, y_3, y_4, yf⟩ := cl5 h_y; obtain ⟨i_0, i_1, i_2⟩ := cs3 h_1; obtain ⟨j_0, j_1, j_2⟩ := cs3 h_2; go_simp <;> rfl) ?_
     iterate 3 refine Qaa rfl (by kernel_rfl) (fun _ _ => by go_simp <;> rfl) ?_
     refine Qaa rfl (by kernel_rfl) (fun w' hw => by obtain ⟨h_x, h_y, h_1, h_2⟩ := hw; obtain ⟨x_0, x_1, x_2, x_3, x_4, xf⟩ := cl5 h_x; obtain ⟨y_0, y_1, y_2, y_3, y_4, yf⟩ := cl5 h_y; obtain ⟨i_0, i_1, i_2⟩ := cs3 h_1; obtain ⟨j_0, j_1, j_2⟩ := cs3 h_2; go_simp <;> rfl) ?_
     refine Qaa rfl (by kernel_rfl) (fun _ _ => by go_simp <;> rfl) ?_
     refine Qaa rfl (by kernel_rfl) (fun w' hw => by obtain ⟨h_x, h_y, h_1, h_2⟩ := hw; obtain ⟨x_0, x_1, x_2, x_3, x_4, xf⟩ := cl5 h_x; obtain ⟨y_0, y_1, y_2, y_3, y_4, yf⟩ := cl5 h_y; obtain ⟨i_0, i_1, i_2⟩ := cs3 h_1; obtain ⟨j_0, j_1, j_2⟩ := cs3 h_2; go_simp <;> rfl) ?_
     iterate 3 refine Qaa rfl (by kernel_rfl) (fun _ _ => by go_simp <;> rfl) ?_
     refine Qaa rfl (by kernel_rfl) (fun w' hw => by obtain ⟨h_x, h_y, h_1, h_2⟩ := hw; obtain ⟨x_0, x_1, x_2, x_3, x_4, xf⟩ := cl5 h_x; obtain ⟨y_0, y_1, y_2, y_3, y_4, yf⟩ := cl5 h_y; obtain ⟨i_0, i_1, i_2⟩ := cs3 h_1; obtain ⟨j_0, j_1, j_2⟩ := cs3 h_2; go_simp <;> rfl) ?_
     refine Qaa (v := .bool true) rfl (by kernel_rfl) (fun _ _ => by go_simp <;> rfl) ?_
     refine Qaa (v := .bool true) rfl (by kernel_rfl) (fun _ _ => by go_simp <;> rfl) ?_
     refine Qaa (v := .bool true) rfl (by kernel_rfl) (fun _ _ => by go_simp <;> rfl) ?_
     iterate 13 refine Qah rfl (by kernel_rfl) ?_
     refine Qaq rfl (Qa HC _ ((Below.refl wr.heap.size wr).drew)) (by kernel_rfl) ?_
     refine Qah rfl (by kernel_rfl) ?_
     refine Qaa (v := .bool true) rfl (by kernel_rfl) (fun _ _ => by go_simp <;> rfl) ?_
     refine Qan (Qa HC _ ((Below.refl wr.heap.size wr).drew)) (hPP _ _ ?_)
     clear hPP PP
     simp [Act.put, Array.setIfInBounds]
     go_wp2_with fail
     go_ret
     obtain ⟨hu, hv, hall, bw, hr⟩ := Qa HF
     have bb := (Qa BB3).1
     exact ⟨by rw [Qcx, ← Qa S0, ← Qa S1, ← Qa S2, Qai hu hv hr, Bool.and_false, Bool.false_and]; try rfl, bb.trans ((bw.trans (((Below.refl wr.heap.size wr).drew).mono bw.size)).mono bb.size)⟩
    have g0 : (u.name == v.name) = false := by simpa using e0
    have HF := hide (Ya hu (Ya hv (Ya hall (Ya bw (show eqIn u v = false by unfold eqIn; simp [e0])))))
    clear hu hv hall bw
    clear e0
    go_wp2_with fail
    clear x_0 x_1 x_2 x_3 x_4 xf y_0 y_1 y_2 y_3 y_4 yf
    refine Qak (md := mLErg0) (fun w' => w'.heap[kx]? = some (.cells #[.slice x0a x0n x0c, .slice x1a x1n x1c, .slice x2a x2n x2c, .slice (some ⟨b1, 0, none⟩) x3n x3c, .slice x4a x4n x4c] 28 (0, 0)) ∧ w'.heap[ky]? = some (.cells #[.slice y0a y0n y0c, .slice y1a y1n y1c, .slice y2a y2n y2c, .slice (some ⟨b2, 0, none⟩) x3n y3c, .slice y4a x4n y4c] 28 (0, 0)) ∧ (∀ q c, ([str u.name, str u.comp, .int .i64 u.at_] : List Value)[q]? = some c → w'.cell? ⟨b1, j * 3 + q, none⟩ = some c) ∧ (∀ q c, ([str v.name, str v.comp, .int .i64 v.at_] : List Value)[q]? = some c → w'.cell? ⟨b2, j * 3 + q, none⟩ = some c)) mixedO (by kernel_rfl) rfl (by kernel_rfl) (fun PP hPP => ?_)
    refine Qaa rfl (by kernel_rfl) (fun _ _ => by go_simp <;> rfl) ?_
    refine Qaa rfl (by kernel_rfl) (fun w' hw => by obtain ⟨h_x, h_y, h_1, h_2⟩ := hw; obtain ⟨x_0, x_1, x_2, x_3, x_4, xf⟩ := cl5 h_x; obtain ⟨y_0, y_1, y_2, y_3, y_4, yf⟩ := cl5 h_y; obtain ⟨i_0, i_1, i_2⟩ := cs3 h_1; obtain ⟨j_0, j_1, j_2⟩ := cs3 h_2; go_simp <;> rfl) ?_
    iterate 3 refine Qaa rfl (by kernel_rfl) (fun _ _ => by go_simp <;> rfl) ?_
    refine Qaa rfl (by kernel_rfl) (fun w' hw => by obtain ⟨h_x, h_y, h_1, h_2⟩ := hw; obtain ⟨x_0, x_1, x_2, x_3, x_4, xf⟩ := cl5 h_x; obtain ⟨y_0, y_1, y_2, y_3, y_4, yf⟩ := cl5 h_y; obtain ⟨i_0, i_1, i_2⟩ := cs3 h_1; obtain ⟨j_0, j_1, j_2⟩ := cs3 h_2; go_simp <;> rfl) ?_
    refine Qaa rfl (by kernel_rfl) (fun _ _ => by go_simp <;> rfl) ?_
    refine Qaa rfl (by kernel_rfl) (fun w' hw => by obtain ⟨h_x, h_y, h_1, h_2⟩ := hw; obtain ⟨x_0, x_1, x_2, x_3, x_4, xf⟩ := cl5 h_x; obtain ⟨y_0, y_1, y_2, y_3, y_4, yf⟩ := cl5 h_y; obtain ⟨i_0, i_1, i_2⟩ := cs3 h_1; obtain ⟨j_0, j_1, j_2⟩ := cs3 h_2; go_simp <;> rfl) ?_
    iterate 3 refine Qaa rfl (by kernel_rfl) (fun _ _ => by go_simp <;> rfl) ?_
    refine Qaa rfl (by kernel_rfl) (fun w' hw => by obtain ⟨h_x, h_y, h_1, h_2⟩ := hw; obtain ⟨x_0, x_1, x_2, x_3, x_4, xf⟩ := cl5 h_x; obtain ⟨y_0, y_1, y_2, y_3, y_4, yf⟩ := cl5 h_y; obtain ⟨i_0, i_1, i_2⟩ := cs3 h_1; obtain ⟨j_0, j_1, j_2⟩ := cs3 h_2; go_simp <;> rfl) ?_
    refine Qaa (v := .bool true) rfl (by kernel_rfl) (fun _ _ => by go_simp <;> rfl) ?_
    refine Qaa (v := .bool true) rfl (by kernel_rfl) (fun _ _ => by go_simp <;> rfl) ?_
    iterate 13 refine Qah rfl (by kernel_rfl) ?_
    refine Qaa (v := .bool true) rfl (by kernel_rfl) (fun _ _ => by go_simp <;> rfl) ?_
    refine Qaa (v := .bool true) rfl (by kernel_rfl) (fun _ _ => by go_simp <;> rfl) ?_
    iterate 13 refine Qah rfl (by kernel_rfl) ?_
    refine Qaq rfl (Qa HC _ ((Below.refl wr.heap.size wr).drew)) (by kernel_rfl) ?_
    refine Qah rfl (by kernel_rfl) ?_
    refine Qaa (v := .bool true) rfl (by kernel_rfl) (fun _ _ => by go_simp <;> rfl) ?_
    refine Qan (Qa HC _ ((Below.refl wr.heap.size wr).drew)) (hPP _ _ ?_)
    clear hPP PP
    simp [Act.put, Array.setIfInBounds]
    go_wp2_with fail
    go_ret
    obtain ⟨hu, hv, hall, bw, hr⟩ := Qa HF
    have bb := (Qa BB3).1
    exact ⟨by rw [Qcx, ← Qa S0, ← Qa S1, ← Qa S2, Qai hu hv hr, Bool.and_false, Bool.false_and]; try rfl, bb.trans ((bw.trans (((Below.refl wr.heap.size wr).drew).mono bw.size)).mono bb.size)⟩
   obtain ⟨l1, l2, l3, l4⟩ := Qa HL
   have HI := hide (show eqL eqIn p.inits r.inits = true from Qbd (by omega) (fun q u' v' hu' hv' => hall q u' v' (by have := (List.getElem?_eq_some_iff.1 hu').1; omega) hu' hv'))
   obtain ⟨w5, hw5⟩ : ∃ w5, w5 = wr := ⟨_, rfl⟩
   have BB5 := hide (Ya (bb.trans (bw.mono bb.size)) (Ya na1 nb1))
   rw [← hw5] at BB5 x_0 x_1 x_2 x_3 x_4 xf y_0 y_1 y_2 y_3 y_4 yf
   rw [← hw5]
   clear bw hall HB bb na nb na1 nb1 l1 l2 l3 l4 hw5
   go_wp2_with fail
   clear x_0 x_1 x_2 x_3 x_4 xf y_0 y_1 y_2 y_3 y_4 yf
   go_loopw [8] (fun i wr => ∃ j : Nat, i = .int .i64 (j : Int) ∧ j ≤ x4n ∧ Hid (Below w5.heap.size w5 wr ∧ ∀ q u v, q < j → p.clauses[q]? = some u → r.clauses[q]? = some v → eqCl u v = true)) (fun i _ => x4n - (intOf i).toNat)
   case atStart => exact ⟨0, rfl, Nat.zero_le _, hide ⟨Below.refl _ _, fun q _ _ hq => absurd hq (Nat.not_lt_zero _)⟩⟩
   rename_i wr0 _ _
   obtain ⟨j, rfl, hj, HB⟩ := hrel
   obtain ⟨bw, hall⟩ := Qa HB
   obtain ⟨bb, na, nb⟩ := Qa BB5
   have na1 := (bw.block _ (Qag na)).trans na
   have nb1 := (bw.block _ (Qag nb)).trans nb
   obtain ⟨x_0, x_1, x_2, x_3, x_4, xf⟩ := cl5 na1
   obtain ⟨y_0, y_1, y_2, y_3, y_4, yf⟩ := cl5 nb1
   by_cases hlt : j < x4n
   ·
    obtain ⟨l1, l2, l3, l4⟩ := Qa HL
    obtain ⟨h1, g1, hc, h3, g3, h4, g4⟩ := Qa HG
    have bt : Below w.heap.size w wr := bb.trans (bw.mono bb.size)
    obtain ⟨u, hu⟩ : ∃ u, p.clauses[j]? = some u := ⟨p.clauses[j]'(by omega), List.getElem?_eq_getElem _⟩
    obtain ⟨v, hv⟩ : ∃ v, r.clauses[j]? = some v := ⟨r.clauses[j]'(by omega), List.getElem?_eq_getElem _⟩
    obtain ⟨b1, q1, cs1, ev1, hb1, _, hl1, hp1, hc1'⟩ := (h4.later Qbg bt).elem hu
    obtain ⟨b2, q2, cs2, ev2, hb2, _, hl2, hp2, hc2'⟩ := (g4.later Qbg bt).elem hv
    obtain ⟨e0, e1, e2, e3, e4, rfl⟩ := Qrc hl1
    obtain ⟨f0, f1, f2, f3, f4, rfl⟩ := Qrc hl2
    simp only [Value.slice.injEq] at ev1 ev2
    obtain ⟨rfl, -, -⟩ := ev1
    obtain ⟨rfl, -, -⟩ := ev2
    have HC : Hid (∀ w', Below wr.heap.size wr w' → w'.heap[kx]? = some (.cells #[.slice x0a x0n x0c, .slice x1a x1n x1c, .slice x2a x2n x2c, .slice x3a x3n x3c, .slice (some ⟨b1, 0, none⟩) x4n x4c] 28 (0, 0)) ∧ w'.heap[ky]? = some (.cells #[.slice y0a y0n y0c, .slice y1a y1n y1c, .slice y2a y2n y2c, .slice y3a x3n y3c, .slice (some ⟨b2, 0, none⟩) x4n y4c] 28 (0, 0)) ∧ (∀ q c, ([e0, e1, e2, e3, e4] : List Value)[q]? = some c → w'.cell? ⟨b1, j * 5 + q, none⟩ = some c) ∧ (∀ q c, ([f0, f1, f2, f3, f4] : List Value)[q]? = some c → w'.cell? ⟨b2, j * 5 + q, none⟩ = some c)) := fun w' bb => ⟨(bb.block _ (Qag na1)).trans na1, (bb.block _ (Qag nb1)).trans nb1, fun q c hq => by rw [bb.cell (p := ⟨b1, _, none⟩) hb1]; exact hc1' q c hq, fun q c hq => by rw [bb.cell (p := ⟨b2, _, none⟩) hb2]; exact hc2' q c hq⟩
    have HX := hide (Ya hp1 hp2)
    have HF := hide (Ya hu (Ya hv (Ya hall bw)))
    clear bb na nb na1 nb1 l1 l2 l3 l4 h1 g1 hc h3 g3 h4 g4 bt hb1 hb2 hl1 hl2 hc1' hc2' hp1 hp2 HB hu hv hall bw
    cases er : eqCl u v with
    | true =>
     have ER := hide er
     clear er
     go_wp2_with fail
     clear x_0 x_1 x_2 x_3 x_4 xf y_0 y_1 y_2 y_3 y_4 yf
     refine Qak (md := mLErg1) (fun w' => w'.heap[kx]? = some (.cells #[.slice x0a x0n x0c, .slice x1a x1n x1c, .slice x2a x2n x2c, .slice x3a x3n x3c, .slice (some ⟨b1, 0, none⟩) x4n x4c] 28 (0, 0)) ∧ w'.heap[ky]? = some (.cells #[.slice y0a y0n y0c, .slice y1a y1n y1c, .slice y2a y2n y2c, .slice y3a x3n y3c, .slice (some ⟨b2, 0, none⟩) x4n y4c] 28 (0, 0)) ∧ (∀ q c, ([e0, e1, e2, e3, e4] : List Value)[q]? = some c → w'.cell? ⟨b1, j * 5 + q, none⟩ = some c) ∧ (∀ q c, ([f0, f1, f2, f3, f4] : List Value)[q]? = some c → w'.cell? ⟨b2, j * 5 + q, none⟩ = some c)) mixedO (by kernel_rfl) rfl (by kernel_rfl) (fun PP hPP => ?_)
     refine Qaa rfl (by kernel_rfl) (fun _ _ => by go_simp <;> rfl) ?_
     refine Qaa rfl (by kernel_rfl) (fun w' hw => by obtain ⟨h_x, h_y, h_1, h_2⟩ := hw; obtain ⟨x_0, x_1, x_2, x_3, x_4, xf⟩ := cl5 h_x; obtain ⟨y_0, y_1, y_2, y_3, y_4, yf⟩ := cl5 h_y; go_simp <;> rfl) ?_
     iterate 2 refine Qaa rfl (by kernel_rfl) (fun _ _ => by go_simp <;> rfl) ?_
     refine Qaa rfl (by kernel_rfl) (fun w' hw => by have L1 := Qcz (w := w') (fun q c hq => hw.2.2.1 q c hq); have L2 := Qcz (w := w') (fun q c hq => hw.2.2.2 q c hq); go_simp <;> rfl) ?_
     refine Qaa rfl (by kernel_rfl) (fun _ _ => by go_simp <;> rfl) ?_
     refine Qaa rfl (by kernel_rfl) (fun w' hw => by obtain ⟨h_x, h_y, h_1, h_2⟩ := hw; obtain ⟨x_0, x_1, x_2, x_3, x_4, xf⟩ := cl5 h_x; obtain ⟨y_0, y_1, y_2, y_3, y_4, yf⟩ := cl5 h_y; go_simp <;> rfl) ?_
     iterate 2 refine Qaa rfl (by kernel_rfl) (fun _ _ => by go_simp <;> rfl) ?_
     refine Qaa rfl (by kernel_rfl) (fun w' hw => by have L1 := Qcz (w := w') (fun q c hq => hw.2.2.1 q c hq); have L2 := Qcz (w := w') (fun q c hq => hw.2.2.2 q c hq); go_simp <;> rfl) ?_
     refine Qaa rfl (by kernel_rfl) (fun _ _ => by go_simp <;> rfl) ?_
     refine Qal rfl (Qa HC _ ((Below.refl wr.heap.size wr).drew)) (fun K hK => ?_)
     go_simp
     have hcl := Qis (Qbg.same _ _ _ _ _ (Qa HX).1 ((Below.refl wr.heap.size wr).drew).size (fun b _ hl => ((Below.refl wr.heap.size wr).drew).block b hl)) (Qbg.same _ _ _ _ _ (Qa HX).2 ((Below.refl wr.heap.size wr).drew).size (fun b _ hl => ((Below.refl wr.heap.size wr).drew).block b hl))
     rw [Qa ER] at hcl
     refine hcl.mono ?_
     clear hcl
     rintro en u1 ⟨rfl, bu1⟩
     have B1 := hide (((Below.refl wr.heap.size wr).drew).trans (bu1.mono ((Below.refl wr.heap.size wr).drew).size))
     clear bu1
     go_wp2_with fail
     refine Qaa (v := .bool false) rfl (by kernel_rfl) (fun _ _ => by go_simp <;> rfl) ?_
     refine Qan (Qa HC _ (Qa B1)) (hPP _ _ ?_)
     clear hPP PP
     simp [Act.put, Array.setIfInBounds]
     go_wp2_with fail
     go_roundw
     case rel =>
      obtain ⟨hu, hv, hall, bw⟩ := Qa HF
      refine ⟨j + 1, by go_num, by omega, hide ⟨bw.trans ((Qa B1).mono bw.size), fun q u' v' hq hu' hv' => ?_⟩⟩
      by_cases e : q = j
      ·
       subst e
       rw [hu] at hu'
       rw [hv] at hv'
       cases hu'
       cases hv'
       exact Qa ER
      · exact hall q u' v' (by omega) hu' hv'
     case measure => simp [intOf]; omega
    | false =>
     have ER := hide er
     clear er
     go_wp2_with fail
     clear x_0 x_1 x_2 x_3 x_4 xf y_0 y_1 y_2 y_3 y_4 yf
     refine Qak (md := mLErg1) (fun w' => w'.heap[kx]? = some (.cells #[.slice x0a x0n x0c, .slice x1a x1n x1c, .slice x2a x2n x2c, .slice x3a x3n x3c, .slice (some ⟨b1, 0, none⟩) x4n x4c] 28 (0, 0)) ∧ w'.heap[ky]? = some (.cells #[.slice y0a y0n y0c, .slice y1a y1n y1c, .slice y2a y2n y2c, .slice y3a x3n y3c, .slice (some ⟨b2, 0, none⟩) x4n y4c] 28 (0, 0)) ∧ (∀ q c, ([e0, e1, e2, e3, e4] : List Value)[q]? = some c → w'.cell? ⟨b1, j * 5 + q, none⟩ = some c) ∧ (∀ q c, ([f0, f1, f2, f3, f4] : List Value)[q]? = some c → w'.cell? ⟨b2, j * 5 + q, none⟩ = some c)) mixedO (by kernel_rfl) rfl (by kernel_rfl) (fun PP hPP => ?_)
     refine Qaa rfl (by kernel_rfl) (fun _ _ => by go_simp <;> rfl) ?_
     refine Qaa rfl (by kernel_rfl) (fun w' hw => by obtain ⟨h_x, h_y, h_1, h_2⟩ := hw; obtain ⟨x_0, x_1, x_2, x_3, x_4, xf⟩ := cl5 h_x; obtain ⟨y_0, y_1, y_2, y_3, y_4, yf⟩ := cl5 h_y; go_simp <;> rfl) ?_
     iterate 2 refine Qaa rfl (by kernel_rfl) (fun _ _ => by go_simp <;> rfl) ?_
     refine Qaa rfl (by kernel_rfl) (fun w' hw => by have L1 := Qcz (w := w') (fun q c hq => hw.2.2.1 q c hq); have L2 := Qcz (w := w') (fun q c hq => hw.2.2.2 q c hq); go_simp <;> rfl) ?_
     refine Qaa rfl (by kernel_rfl) (fun _ _ => by go_simp <;> rfl) ?_
     refine Qaa rfl (by kernel_rfl) (fun w' hw => by obtain ⟨h_x, h_y, h_1, h_2⟩ := hw; obtain ⟨x_0, x_1, x_2, x_3, x_4, xf⟩ := cl5 h_x; obtain ⟨y_0, y_1, y_2, y_3, y_4, yf⟩ := cl5 h_y; go_simp <;> rfl) ?_
     iterate 2 refine Qaa rfl (by kernel_rfl) (fun _ _ => by go_simp <;> rfl) ?_
     refine Qaa rfl (by kernel_rfl) (fun w' hw => by have L1 := Qcz (w := w') (fun q c hq => hw.2.2.1 q c hq); have L2 := Qcz (w := w') (fun q c hq => hw.2.2.2 q c hq); go_simp <;> rfl) ?_
     refine Qaa rfl (by kernel_rfl) (fun _ _ => by go_simp <;> rfl) ?_
     refine Qal rfl (Qa HC _ ((Below.refl wr.heap.size wr).drew)) (fun K hK => ?_)
     go_simp
     have hcl := Qis (Qbg.same _ _ _ _ _ (Qa HX).1 ((Below.refl wr.heap.size wr).drew).size (fun b _ hl => ((Below.refl wr.heap.size wr).drew).block b hl)) (Qbg.same _ _ _ _ _ (Qa HX).2 ((Below.refl wr.heap.size wr).drew).size (fun b _ hl => ((Below.refl wr.heap.size wr).drew).block b hl))
     rw [Qa ER] at hcl
     refine hcl.mono ?_
     clear hcl
     rintro en u1 ⟨rfl, bu1⟩
     have B1 := hide (((Below.refl wr.heap.size wr).drew).trans (bu1.mono ((Below.refl wr.heap.size wr).drew).size))
     clear bu1
     go_wp2_with fail
     refine Qaa (v := .bool true) rfl (by kernel_rfl) (fun _ _ => by go_simp <;> rfl) ?_
     refine Qan (Qa HC _ (Qa B1)) (hPP _ _ ?_)
     clear hPP PP
     simp [Act.put, Array.setIfInBounds]
     go_wp2_with fail
     go_ret
     obtain ⟨hu, hv, hall, bw⟩ := Qa HF
     have bb := (Qa BB5).1
     exact ⟨by rw [Qcx, ← Qa S0, ← Qa S1, ← Qa S2, Qa HI, Qai hu hv (Qa ER)]; rfl, bb.trans ((bw.trans ((Qa B1).mono bw.size)).mono bb.size)⟩
   have HF := hide (Ya bw hall)
   clear bw hall HB bb na nb na1 nb1
   go_wp2_with fail
   go_ret
   obtain ⟨bw, hall⟩ := Qa HF
   obtain ⟨l1, l2, l3, l4⟩ := Qa HL
   have bb := (Qa BB5).1
   exact ⟨by rw [Qcx, ← Qa S0, ← Qa S1, ← Qa S2, Qa HI, Qbd (by omega) (fun q u' v' hu' hv' => hall q u' v' (by have := (List.getElem?_eq_some_iff.1 hu').1; omega) hu' hv')]; rfl, bb.trans (bw.mono bb.size)⟩
  have hne : ((x4n : Int) != (y4n : Int)) = true := by simp; omega
  go_wp2_with fail
  go_ret
  obtain ⟨l1, l2, l3, l4⟩ := Qa HL
  exact ⟨by rw [Qcx, Qbo (eq := eqCl) (by omega), Bool.and_false]; try rfl, (Qa BB3).1⟩
 have hne : ((x3n : Int) != (y3n : Int)) = true := by simp; omega
 go_wp2_with fail
 go_ret
 obtain ⟨l1, l2, l3, l4⟩ := Qa HL
 exact ⟨by rw [Qcx, Qbo (eq := eqIn) (by omega), Bool.and_false, Bool.false_and]; try rfl, (Qa BB3).1⟩
end
section
open Go.RowKit Go.Maps
theorem Qiu (p : Pg) : ∀ (q : Pg) (S : Nat → Prop) (w : World) (c0 c1 c2 c3 c4 d0 d1 d2 d3 d4 : Value), PgS S w [c0, c1, c2, c3, c4] p → PgS S w [d0, d1, d2, d3, d4] q →
  Calls Tryz.prog 9 #[.agg #[c0, c1, c2, c3, c4], .agg #[d0, d1, d2, d3, d4], .bool false] w fun en w' => en = .returned (.bool (eqPg p q)) ∧ Below w.heap.size w w' :=
 match p with
 | .mk ts ds cs is ls => fun q S w c0 c1 c2 c3 c4 d0 d1 d2 d3 d4 hx hy => by
  obtain ⟨v0, v1, v2, v3, v4, ex, h0, h1, h2, h3, h4⟩ := hx.cells
  obtain ⟨u0, u1, u2, u3, u4, ey, g0, g1, g2, g3, g4⟩ := hy.cells
  obtain ⟨rfl, rfl, rfl, rfl, rfl⟩ := list5 ex
  obtain ⟨rfl, rfl, rfl, rfl, rfl⟩ := list5 ey
  obtain ⟨_, _, rfl⟩ := h0.sl
  obtain ⟨_, _, rfl⟩ := h1.sl
  obtain ⟨_, _, rfl⟩ := h2.sl
  obtain ⟨_, _, rfl⟩ := h3.sl
  obtain ⟨_, _, rfl⟩ := h4.sl
  obtain ⟨_, _, rfl⟩ := g0.sl
  obtain ⟨_, _, rfl⟩ := g1.sl
  obtain ⟨_, _, rfl⟩ := g2.sl
  obtain ⟨_, _, rfl⟩ := g3.sl
  obtain ⟨_, _, rfl⟩ := g4.sl
  refine Jbc h0 h1 h3 h4 g0 g1 g3 g4 (fun w' hb => ?_)
  refine (Qya (h2.later Qbb hb) (g2.later Qbb hb) (fun j x1 y1 hx1 hy1 w1 e0 e1 e2 e3 e4 f0 f1 f2 f3 f4 _ a1 a2 => ?_)).mono (fun _ _ h => h)
  have hm : x1 ∈ cs := List.mem_of_getElem? hx1
  exact Qiu x1.2.2.1 y1.2.2.1 S w1 e0 e1 e2 e3 e4 f0 f1 f2 f3 f4 a1 a2
termination_by SizeOf.sizeOf p
decreasing_by
 have h1 := List.sizeOf_lt_of_mem hm
 have h2 : SizeOf.sizeOf x1.2.2.1 < SizeOf.sizeOf x1 := by
  obtain ⟨a, b, c, d⟩ := x1
  simp only [Prod.mk.sizeOf_spec]
  omega
 simp only [Pg.mk.sizeOf_spec]
 omega
end
end Go.Proofs.YtccehgfecaamoaaGreatDoor
