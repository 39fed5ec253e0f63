/- A node in two halves. -/
import Derived.Test.YthcljhfankooaabGreatBLook
import Derived.Deep.RegionWith
import Derived.Laws.NewBlocks
namespace Go.Proofs.YthcljhfankooaabGreat
open Go.RowKit Go.Shelf

/-- What is new is of S. -/
def NewIn (S : Nat → Prop) (w : World) : Prop := ∀ b, w.heap.size ≤ b → S b
theorem NewIn.later {S : Nat → Prop} {w w' : World} (h : NewIn S w) (hb : w.heap.size ≤ w'.heap.size) : NewIn S w' := fun b hw => h b (Nat.le_trans hb hw)

/-- The halves of sixteen. -/
theorem halves {S : Nat → Prop} {w W : World} {d b lb rb tb to tc : Nat} {kv kl kr : Value} {t : Nat → Item} {c : Nat → List Item} {k : Nat → Option Addr} (hN : NodeAt S w d 16 b 16 (.slice (some ⟨tb, to, none⟩) 16 tc) kv t k)
    (hk : ∀ i, i ≤ 16 → Tree S w d 15 (k i) (c i)) (hb : Below w.heap.size w W) (hl : S lb) (hr : S rb)
    (l0 : W.cell? ⟨lb, 0, none⟩ = some (.slice (some ⟨tb, to, none⟩) 8 tc)) (l1 : W.cell? ⟨lb, 1, none⟩ = some kl) (r0 : W.cell? ⟨rb, 0, none⟩ = some (.slice (some ⟨tb, to + 9, none⟩) 7 (tc - 9))) (r1 : W.cell? ⟨rb, 1, none⟩ = some kr)
    (h0 : d = 0 → kl = .slice none 0 0 ∧ kr = .slice none 0 0) (h1 : d ≠ 0 → ∀ kb ko kc, kv = .slice (some ⟨kb, ko, none⟩) 17 kc → kl = .slice (some ⟨kb, ko, none⟩) 9 kc ∧ kr = .slice (some ⟨kb, ko + 9, none⟩) 8 (kc - 9)) :
    Tree S W (d + 1) 15 (some ⟨lb, 0, none⟩) (seg c t 0 8) ∧ Tree S W (d + 1) 15 (some ⟨rb, 0, none⟩) (seg c t 9 7) := by
  have hst : Stays S w W := Stays.of_below hb
  have hN2 := hN.stays hst
  refine ⟨⟨lb, 8, _, kl, t, c, k, rfl, rfl, ⟨hl, l0, l1, hN2.row.cut (by omega), fun j hj => hN2.items j (by omega), by omega, fun hd => ⟨(h0 hd).1, (hN2.leaf hd).2⟩, fun hd => ?_⟩, fun i hi => (hk i (by omega)).stays hst⟩,
    ⟨rb, 7, _, kr, fun j => t (9 + j), fun j => c (9 + j), fun j => k (9 + j), rfl, (seg_shift c t 9 7 0).symm, ⟨hr, r0, r1, hN2.row.tail (i := 9) (by omega), fun j hj => hN2.items (9 + j) (by omega), by omega, fun hd => ⟨(h0 hd).2, fun i => (hN2.leaf hd).2 _⟩, fun hd => ?_⟩, fun i hi => (hk (9 + i) (by omega)).stays hst⟩⟩
  · obtain ⟨ka, kc, e, _, _, hc⟩ := id (hN2.inner hd)
    obtain ⟨kb, ko, e2, _⟩ := hc 0 (by omega)
    subst e2
    rw [(h1 hd kb ko kc e).1]
    have := hN2.inner hd
    rw [e] at this
    exact this.cut (by omega)
  · obtain ⟨ka, kc, e, _, _, hc⟩ := id (hN2.inner hd)
    obtain ⟨kb, ko, e2, _⟩ := hc 0 (by omega)
    subst e2
    rw [(h1 hd kb ko kc e).2]
    have := hN2.inner hd
    rw [e] at this
    exact this.tail (i := 9) (by omega)

set_option maxRecDepth 100000 in
set_option maxHeartbeats 4000000 in
theorem split_any (S : Nat → Prop) (w : World) (d b n : Nat) (tv kv : Value) (t : Nat → Item) (c : Nat → List Item) (k : Nat → Option Addr) (hN : NodeAt S w d 16 b n tv kv t k) (hn : 15 < n) (hk : ∀ i, i ≤ 16 → Tree S w d 15 (k i) (c i)) (hnew : NewIn S w) :
    Calls Tryz.prog 124 #[.pointer (some ⟨b, 0, none⟩)] w fun e w' => ∃ lb rb, e = .returned (.tuple #[.pointer (some ⟨lb, 0, none⟩), (t 8).1, .pointer (some ⟨rb, 0, none⟩)]) ∧
      Tree S w' (d + 1) 15 (some ⟨lb, 0, none⟩) (seg c t 0 8) ∧ Tree S w' (d + 1) 15 (some ⟨rb, 0, none⟩) (seg c t 9 7) ∧ Below w.heap.size w w' := by
  obtain rfl : n = 16 := by have := hN.len; omega
  obtain ⟨ta, tc, rfl, htc, htc2, hcell⟩ := id hN.row
  obtain ⟨tb, to, rfl, _, hc8⟩ := hcell 8 (by omega)
  have hblt : b < w.heap.size := by obtain ⟨_, h, _⟩ := cells_of_cell hN.c0; exact lt_heap h
  have htlt : tb < w.heap.size := by obtain ⟨_, h, _⟩ := cells_of_cell hc8; exact lt_heap h
  have hne : ¬ (tc = 9) := by omega
  have h0 := hN.c0
  have h1 := hN.c1
  have hc8 : w.cell? ⟨tb, to + 8, none⟩ = some (t 8).1 := hc8
  obtain ⟨sa, sc, e8, _⟩ := hN.items 8 (by omega)
  rw [e8] at hc8
  have HE := hide e8
  have mixed : Tryz.prog.follows .mixedOrders = true := by kernel_rfl
  by_cases hd : d = 0
  · obtain ⟨rfl, _⟩ := hN.leaf hd
    have FIN : Hid (∀ W lb rb, Below w.heap.size w W → w.heap.size ≤ lb → w.heap.size ≤ rb → W.cell? ⟨lb, 0, none⟩ = some (.slice (some ⟨tb, to, none⟩) 8 tc) → W.cell? ⟨lb, 1, none⟩ = some (.slice none 0 0) → W.cell? ⟨rb, 0, none⟩ = some (.slice (some ⟨tb, to + 9, none⟩) 7 (tc - 9)) → W.cell? ⟨rb, 1, none⟩ = some (.slice none 0 0) →
        Tree S W (d + 1) 15 (some ⟨lb, 0, none⟩) (seg c t 0 8) ∧ Tree S W (d + 1) 15 (some ⟨rb, 0, none⟩) (seg c t 9 7)) := fun W lb rb hb h2 h3 q0 q1 q2 q3 => halves hN hk hb (hnew lb h2) (hnew rb h3) q0 q1 q2 q3 (fun _ => ⟨rfl, rfl⟩) (fun h => absurd hd h)
    clear hN hk hcell hnew hd e8
    go_enter Tryz.func124, Tryz.ntmps124
    go_wp2_with fail
    go_quiet (fail)
    go_wp2_with fail
    refine bodyPost_ret (v := .tuple #[.pointer (some ⟨w.heap.size, 0, none⟩), .slice sa (t 8).2.length sc, .pointer (some ⟨w.heap.size + 1, 0, none⟩)]) (by simp [results, Tryz.f124, go_sem, unhide HE]) rfl ?_
    have hB : Below w.heap.size w (((w.alloc (.cells #[.slice (some ⟨tb, to, none⟩) 8 tc, .slice none 0 0] 171)).alloc (.cells #[.slice (some ⟨tb, to + 9, none⟩) 7 (tc - 9), .slice none 0 0] 171)).drewN nq) :=
      below_drewN (((Below.refl _ w).alloc (Nat.le_refl _) _).alloc (by simp) _) nq
    obtain ⟨g1, g2⟩ := unhide FIN _ w.heap.size (w.heap.size + 1) hB (Nat.le_refl _) (by omega) (by simp [go_sem, World.cell?_drewN]) (by simp [go_sem]) (by simp [go_sem]) (by simp [go_sem])
    exact ⟨_, _, by rw [unhide HE], g1, g2, hB⟩
  · obtain ⟨ka, kc, rfl, hkc, hkc2, hkcell⟩ := id (hN.inner hd)
    obtain ⟨kb, ko, rfl, _, _⟩ := hkcell 8 (by omega)
    have FIN : Hid (∀ W lb rb, Below w.heap.size w W → w.heap.size ≤ lb → w.heap.size ≤ rb → W.cell? ⟨lb, 0, none⟩ = some (.slice (some ⟨tb, to, none⟩) 8 tc) → W.cell? ⟨lb, 1, none⟩ = some (.slice (some ⟨kb, ko, none⟩) 9 kc) → W.cell? ⟨rb, 0, none⟩ = some (.slice (some ⟨tb, to + 9, none⟩) 7 (tc - 9)) → W.cell? ⟨rb, 1, none⟩ = some (.slice (some ⟨kb, ko + 9, none⟩) 8 (kc - 9)) →
        Tree S W (d + 1) 15 (some ⟨lb, 0, none⟩) (seg c t 0 8) ∧ Tree S W (d + 1) 15 (some ⟨rb, 0, none⟩) (seg c t 9 7)) := fun W lb rb hb h2 h3 q0 q1 q2 q3 => halves hN hk hb (hnew lb h2) (hnew rb h3) q0 q1 q2 q3 (fun h => absurd h hd) (fun _ kb' ko' kc' e => by cases e; exact ⟨rfl, rfl⟩)
    have hne2 : ¬ (kc = 9) := by omega
    clear hN hk hcell hnew hd e8 hkcell
    go_enter Tryz.func124, Tryz.ntmps124
    go_wp2_with fail
    go_big_region
    go_wp2_with fail
    go_quiet (fail)
    go_wp2_with fail
    refine bodyPost_ret (v := .tuple #[.pointer (some ⟨w.heap.size, 0, none⟩), .slice sa (t 8).2.length sc, .pointer (some ⟨w.heap.size + 1, 0, none⟩)]) (by simp [results, Tryz.f124, go_sem, unhide HE]) rfl ?_
    have hB : Below w.heap.size w ((((w.alloc (.cells #[.slice (some ⟨tb, to, none⟩) 8 tc, .slice (some ⟨kb, ko, none⟩) 9 kc] 171)).alloc (.cells #[.slice (some ⟨tb, to + 9, none⟩) 7 (tc - 9), .slice (some ⟨kb, ko + 9, none⟩) 8 (kc - 9)] 171)).drew).drewN nq) :=
      below_drewN (((Below.refl _ w).alloc (Nat.le_refl _) _).alloc (by simp) _).drew nq
    obtain ⟨g1, g2⟩ := unhide FIN _ w.heap.size (w.heap.size + 1) hB (Nat.le_refl _) (by omega) (by simp [go_sem, World.cell?_drewN]) (by simp [go_sem]) (by simp [go_sem]) (by simp [go_sem])
    exact ⟨_, _, by rw [unhide HE], g1, g2, hB⟩
end Go.Proofs.YthcljhfankooaabGreat
