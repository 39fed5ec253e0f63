/- BtreePlays: what lies where. BtreePlays: the two sets are made. -/
import Derived.Test.YtmjlhmhkbfnccaaMSw
import Derived.Test.YtmjlhmhkbfnccaaRRF
import Derived.Test.YtmjlhmhkbfnccaaClears
import Derived.Test.YtmjlhmhkbfnccaaSames
namespace Go.Proofs.Ytmjlhmhkbfnccaa
open Go.RowKit Go.Shelf Go.Maps

theorem and_one (x : Int) : bits .and .i64 x 1 = 0 ∨ bits .and .i64 x 1 = 1 := by
  have h : bits .and .i64 x 1 = IntKind.wrap .i64 ((BitVec.ofInt 64 x &&& 1#64).toNat : Int) := rfl
  have h2 : (BitVec.ofInt 64 x &&& 1#64).toNat = (BitVec.ofInt 64 x).toNat % 2 := by
    rw [BitVec.toNat_and]
    exact Nat.and_one_is_mod _
  rw [h, h2]
  rcases Nat.mod_two_eq_zero_or_one (BitVec.ofInt 64 x).toNat with e | e
  · rw [e]; left; decide
  · rw [e]; right; decide
theorem RAt.mono {S S' : Nat → Prop} {w : World} {rb d : Nat} {cs : Array Value} {o : List Int} {xs : List (List Int)} (h : RAt S w rb d cs o xs) (hs : ∀ b, b < w.heap.size → S b → S' b) (hn : ¬ S' rb) : RAt S' w rb d cs o xs := by
  obtain ⟨ov, tv, h1, h2, h3, h4⟩ := h.cells
  exact ⟨⟨ov, tv, h1, h2.mono hs, h3.mono hs, h4⟩, hn⟩
/-- Two sets, and the document's two in one block. -/
structure Pl (S : Nat → Prop) (W w : World) (tb s h s' h' i d j d' : Nat) (cs : Array Value) (o o' : List Int) (A A' : List (List Int)) : Prop where
  t : SetT S w s h o A
  t' : SetT S w s' h' o' A'
  r : RAt S w tb d cs o A
  r' : RAt S w tb d' cs o' A'
  p : cs[i]? = some (.pointer (some ⟨s, 0, none⟩))
  p' : cs[j]? = some (.pointer (some ⟨s', 0, none⟩))
  nS : ¬ S h ∧ ¬ S h' ∧ ¬ S tb
  nw : NewIn S w
  ne : h ≠ h' ∧ h ≠ tb ∧ h' ≠ tb
  lW : W.heap.size ≤ h ∧ W.heap.size ≤ h' ∧ W.heap.size ≤ tb
  bel : Below W.heap.size W w
  ix : (i = 0 ∧ d = 2 ∧ j = 1 ∧ d' = 4) ∨ (i = 1 ∧ d = 4 ∧ j = 0 ∧ d' = 2)
section
variable {S : Nat → Prop} {W w wy : World} {tb s h s' h' i d j d' : Nat} {cs : Array Value} {o o' : List Int} {A A' : List (List Int)}
theorem Pl.symm (k : Pl S W w tb s h s' h' i d j d' cs o o' A A') : Pl S W w tb s' h' s h j d' i d cs o' o A' A :=
  ⟨k.t', k.t, k.r', k.r, k.p', k.p, ⟨k.nS.2.1, k.nS.1, k.nS.2.2⟩, k.nw, ⟨fun e => k.ne.1 e.symm, k.ne.2.2, k.ne.2.1⟩, ⟨k.lW.2.1, k.lW.1, k.lW.2.2⟩, k.bel, k.ix.elim (fun q => .inr ⟨q.2.2.1, q.2.2.2, q.1, q.2.1⟩) (fun q => .inl ⟨q.2.2.1, q.2.2.2, q.1, q.2.1⟩)⟩
theorem Pl.later (k : Pl S W w tb s h s' h' i d j d' cs o o' A A') (hb : Below w.heap.size w wy) : Pl S W wy tb s h s' h' i d j d' cs o o' A A' :=
  ⟨k.t.later hb, k.t'.later hb, k.r.later hb, k.r'.later hb, k.p, k.p', k.nS, k.nw.later hb.size, k.ne, k.lW, k.bel.trans (hb.mono k.bel.size), k.ix⟩
/-- The one set is changed. -/
theorem Pl.own (k : Pl S W w tb s h s' h' i d j d' cs o o' A A') {A2 : List (List Int)} (h2 : SetT S wy s h o A2) (hK : Keeps (fun b => b = h) w wy) : SetT S wy s' h' o' A' ∧ RAt S wy tb d cs o A ∧ RAt S wy tb d' cs o' A' ∧ NewIn S wy ∧ Below W.heap.size W wy := by
  have _ := h2
  have hO : ∀ b, b < w.heap.size → S b → ¬ (b = h) := fun b _ hs e => k.nS.1 (e ▸ hs)
  exact ⟨k.t'.keeps hK (fun e => k.ne.1 e.symm) k.nS.1, k.r.keeps hK (fun e => k.ne.2.1 e.symm) hO, k.r'.keeps hK (fun e => k.ne.2.1 e.symm) hO, k.nw.later hK.size, k.bel.trans (hK.below k.bel.size (fun b e => by have := k.lW.1; omega))⟩
theorem RAt.other {v : Value} {d2 : Nat} (r : RAt S w tb d cs o A) (hv : ∃ t, wy.heap[tb]? = some (.cells (cs.setIfInBounds d2 v) t (0, 0))) (hst : Stays S w wy) (h1 : d2 ≠ d) (h2 : d2 ≠ d + 1) : RAt S wy tb d (cs.setIfInBounds d2 v) o A := by
  obtain ⟨ov, tv, ⟨t, _, q0, q1⟩, q2, q3, q4⟩ := r.cells
  obtain ⟨t2, hv⟩ := hv
  exact ⟨⟨ov, tv, ⟨t2, hv, by rw [Array.getElem?_setIfInBounds, if_neg h1]; exact q0, by rw [Array.getElem?_setIfInBounds, if_neg h2]; exact q1⟩, q2.stays hst, q3.stays hst, q4⟩, r.ns⟩
/-- The document's one is changed too. -/
theorem Pl.both (k : Pl S W w tb s h s' h' i d j d' cs o o' A A') {w2 : World} {A2 : List (List Int)} {v : Value} (h2 : SetT S w2 s h o A2) (hK : Keeps (fun b => b = h) w w2) (h3 : RAt S wy tb d (cs.setIfInBounds (d + 1) v) o A2) (hK2 : Keeps (fun b => b = tb) w2 wy) : Pl S W wy tb s h s' h' i d j d' (cs.setIfInBounds (d + 1) v) o o' A2 A' := by
  obtain ⟨q1, q2, q3, q4, q5⟩ := k.own h2 hK
  have hO : ∀ b, b < w2.heap.size → S b → ¬ (b = tb) := fun b _ hs e => k.nS.2.2 (e ▸ hs)
  obtain ⟨_, _, ⟨t, z, _⟩, _⟩ := h3.cells
  have ix := k.ix
  refine ⟨h2.keeps hK2 k.ne.2.1 k.nS.2.2, q1.keeps hK2 k.ne.2.2 k.nS.2.2, h3, q3.other ⟨t, z⟩ (hK2.stays hO) (by omega) (by omega), ?_, ?_, k.nS, q4.later hK2.size, k.ne, k.lW, q5.trans (hK2.below q5.size (fun b e => by have := k.lW.2.2; omega)), k.ix⟩
  · rw [Array.getElem?_setIfInBounds, if_neg (by omega)]; exact k.p
  · rw [Array.getElem?_setIfInBounds, if_neg (by omega)]; exact k.p'
/-- What the block's cells are. -/
theorem Pl.cells (k : Pl S W w tb s h s' h' i d j d' cs o o' A A') : ∃ oa oc ta tc oa' oc' ta' tc', w.cell? ⟨tb, i, none⟩ = some (.pointer (some ⟨s, 0, none⟩)) ∧ w.cell? ⟨tb, j, none⟩ = some (.pointer (some ⟨s', 0, none⟩)) ∧ w.cell? ⟨tb, d, none⟩ = some (.slice oa o.length oc) ∧ w.cell? ⟨tb, d + 1, none⟩ = some (.slice ta A.length tc) ∧ w.cell? ⟨tb, d', none⟩ = some (.slice oa' o'.length oc') ∧ w.cell? ⟨tb, d' + 1, none⟩ = some (.slice ta' A'.length tc') ∧
    w.frozen? ⟨tb, d, none⟩ = false ∧ w.frozen? ⟨tb, d + 1, none⟩ = false ∧ w.frozen? ⟨tb, d', none⟩ = false ∧ w.frozen? ⟨tb, d' + 1, none⟩ = false ∧
    IntsS S w (.slice oa o.length oc) o ∧ ListAt S w (.slice ta A.length tc) A ∧ (A = [] → (Value.slice ta A.length tc) = .slice none 0 0) ∧ IntsS S w (.slice oa' o'.length oc') o' ∧ ListAt S w (.slice ta' A'.length tc') A' ∧ (A' = [] → (Value.slice ta' A'.length tc') = .slice none 0 0) := by
  obtain ⟨ov, tv, hh, q2, q3, q4⟩ := k.r.cells
  obtain ⟨ov', tv', hh', q2', q3', q4'⟩ := k.r'.cells
  obtain ⟨oa, oc, rfl, _⟩ := id q2
  obtain ⟨oa', oc', rfl, _⟩ := id q2'
  obtain ⟨_, ⟨ta, tc, rfl, _⟩, _⟩ := id q3
  obtain ⟨_, ⟨ta', tc', rfl, _⟩, _⟩ := id q3'
  obtain ⟨c0, c1, f0, f1⟩ := hh.cells
  obtain ⟨e0, e1, g0, g1⟩ := hh'.cells
  obtain ⟨t, hz, _⟩ := hh
  exact ⟨oa, oc, ta, tc, oa', oc', ta', tc', by rw [cell_at hz]; exact k.p, by rw [cell_at hz]; exact k.p', c0, c1, e0, e1, f0, f1, g0, g1, q2, q3, q4, q2', q3', q4'⟩
/-- Both change places. -/
theorem Pl.swapped (k : Pl S W w tb s h s' h' i d j d' cs o o' A A') {v1 : World} (ht : SetT S v1 s h o' A') (ht' : SetT S v1 s' h' o A) (hK : Keeps (fun b => b = h ∨ b = h') w v1) {X2 X3 X4 X5 : Value} (x2 : cs[2]? = some X2) (x3 : cs[3]? = some X3) (x4 : cs[4]? = some X4) (x5 : cs[5]? = some X5)
    (hw : wy = ((((v1.setCell ⟨tb, 2, none⟩ X4).setCell ⟨tb, 3, none⟩ X5).setCell ⟨tb, 4, none⟩ X2).setCell ⟨tb, 5, none⟩ X3)) :
    Pl S W wy tb s h s' h' i d j d' ((((cs.setIfInBounds 2 X4).setIfInBounds 3 X5).setIfInBounds 4 X2).setIfInBounds 5 X3) o' o A' A := by
  have hO : ∀ b, b < w.heap.size → S b → ¬ (b = h ∨ b = h') := fun b _ hs e => by rcases e with e | e; exact k.nS.1 (e ▸ hs); exact k.nS.2.1 (e ▸ hs)
  have hn : ¬ (tb = h ∨ tb = h') := fun e => by rcases e with e | e; exact k.ne.2.1 e.symm; exact k.ne.2.2 e.symm
  have r1 := k.r.keeps hK hn hO
  have r1' := k.r'.keeps hK hn hO
  have hK2 : Keeps (fun b => b = tb) v1 wy := by
    rw [hw]
    exact ((((Keeps.refl (fun b => b = tb) v1).setCell ⟨tb, 2, none⟩ rfl _).setCell ⟨tb, 3, none⟩ rfl _).setCell ⟨tb, 4, none⟩ rfl _).setCell ⟨tb, 5, none⟩ rfl _
  have hst : Stays S v1 wy := hK2.stays (fun b _ hs e => k.nS.2.2 (e ▸ hs))
  have b1 := k.bel.trans (hK.below k.bel.size (fun b e => by have := k.lW; omega))
  obtain ⟨ov, tv, ⟨t, hz, q0, q1⟩, q2, q3, q4⟩ := r1.cells
  obtain ⟨ov', tv', ⟨_, _, q0', q1'⟩, q2', q3', q4'⟩ := r1'.cells
  have hz2 : wy.heap[tb]? = some (.cells ((((cs.setIfInBounds 2 X4).setIfInBounds 3 X5).setIfInBounds 4 X2).setIfInBounds 5 X3) t (0, 0)) := by rw [hw]; exact set_heap (set_heap (set_heap (set_heap hz 2 X4) 3 X5) 4 X2) 5 X3
  have l5 : 5 < cs.size := (Array.getElem?_eq_some_iff.1 x5).1
  have e0 : ((((cs.setIfInBounds 2 X4).setIfInBounds 3 X5).setIfInBounds 4 X2).setIfInBounds 5 X3)[0]? = cs[0]? := by simp
  have e1 : ((((cs.setIfInBounds 2 X4).setIfInBounds 3 X5).setIfInBounds 4 X2).setIfInBounds 5 X3)[1]? = cs[1]? := by simp
  have e2 : ((((cs.setIfInBounds 2 X4).setIfInBounds 3 X5).setIfInBounds 4 X2).setIfInBounds 5 X3)[2]? = some X4 := by
    have : 2 < cs.size := by omega
    simp [this]
  have e3 : ((((cs.setIfInBounds 2 X4).setIfInBounds 3 X5).setIfInBounds 4 X2).setIfInBounds 5 X3)[3]? = some X5 := by
    have : 3 < cs.size := by omega
    simp [this]
  have e4 : ((((cs.setIfInBounds 2 X4).setIfInBounds 3 X5).setIfInBounds 4 X2).setIfInBounds 5 X3)[4]? = some X2 := by
    have : 4 < cs.size := by omega
    simp [this]
  have e5 : ((((cs.setIfInBounds 2 X4).setIfInBounds 3 X5).setIfInBounds 4 X2).setIfInBounds 5 X3)[5]? = some X3 := by
    simp [l5]
  have htn := ht.keeps hK2 k.ne.2.1 k.nS.2.2
  have htn' := ht'.keeps hK2 k.ne.2.2 k.nS.2.2
  have hnw := (k.nw.later hK.size).later hK2.size
  have hbl := b1.trans (hK2.below b1.size (fun b e => by have := k.lW.2.2; omega))
  have kp := k.p
  have kp' := k.p'
  generalize hcs : (((cs.setIfInBounds 2 X4).setIfInBounds 3 X5).setIfInBounds 4 X2).setIfInBounds 5 X3 = cs2 at hz2 e0 e1 e2 e3 e4 e5 ⊢
  rcases k.ix with ⟨rfl, rfl, rfl, rfl⟩ | ⟨rfl, rfl, rfl, rfl⟩
  · have y0 : X2 = ov := by rw [x2] at q0; exact Option.some.inj q0
    have y1 : X3 = tv := by rw [x3] at q1; exact Option.some.inj q1
    have y0' : X4 = ov' := by rw [x4] at q0'; exact Option.some.inj q0'
    have y1' : X5 = tv' := by rw [x5] at q1'; exact Option.some.inj q1'
    rw [y0] at e4
    rw [y1] at e5
    rw [y0'] at e2
    rw [y1'] at e3
    exact ⟨htn, htn', ⟨⟨ov', tv', ⟨t, hz2, e2, e3⟩, q2'.stays hst, q3'.stays hst, q4'⟩, k.nS.2.2⟩, ⟨⟨ov, tv, ⟨t, hz2, e4, e5⟩, q2.stays hst, q3.stays hst, q4⟩, k.nS.2.2⟩, e0.trans kp, e1.trans kp', k.nS, hnw, k.ne, k.lW, hbl, .inl ⟨rfl, rfl, rfl, rfl⟩⟩
  · have y0 : X4 = ov := by rw [x4] at q0; exact Option.some.inj q0
    have y1 : X5 = tv := by rw [x5] at q1; exact Option.some.inj q1
    have y0' : X2 = ov' := by rw [x2] at q0'; exact Option.some.inj q0'
    have y1' : X3 = tv' := by rw [x3] at q1'; exact Option.some.inj q1'
    rw [y0'] at e4
    rw [y1'] at e5
    rw [y0] at e2
    rw [y1] at e3
    exact ⟨htn, htn', ⟨⟨ov', tv', ⟨t, hz2, e4, e5⟩, q2'.stays hst, q3'.stays hst, q4'⟩, k.nS.2.2⟩, ⟨⟨ov, tv, ⟨t, hz2, e2, e3⟩, q2.stays hst, q3.stays hst, q4⟩, k.nS.2.2⟩, e1.trans kp, e0.trans kp', k.nS, hnw, k.ne, k.lW, hbl, .inr ⟨rfl, rfl, rfl, rfl⟩⟩
theorem Pl.unswapped (k : Pl S W w tb s h s' h' i d j d' cs o o' A A') {v1 : World} (ht : SetT S v1 s h o A) (ht' : SetT S v1 s' h' o' A') (hK : Keeps (fun b => b = h ∨ b = h') w v1) : Pl S W v1 tb s h s' h' i d j d' cs o o' A A' := by
  have hO : ∀ b, b < w.heap.size → S b → ¬ (b = h ∨ b = h') := fun b _ hs e => by rcases e with e | e; exact k.nS.1 (e ▸ hs); exact k.nS.2.1 (e ▸ hs)
  have hn : ¬ (tb = h ∨ tb = h') := fun e => by rcases e with e | e; exact k.ne.2.1 e.symm; exact k.ne.2.2 e.symm
  exact ⟨ht, ht', k.r.keeps hK hn hO, k.r'.keeps hK hn hO, k.p, k.p', k.nS, k.nw.later hK.size, k.ne, k.lW, k.bel.trans (hK.below k.bel.size (fun b e => by have := k.lW; omega)), k.ix⟩
end
end Go.Proofs.Ytmjlhmhkbfnccaa

namespace Go.Proofs.Ytmjlhmhkbfnccaa
open Go.RowKit Go.Shelf Go.Maps

set_option maxRecDepth 100000 in
set_option maxHeartbeats 4000000 in
theorem rnew_nil (w : World) (ov : Value) (o : List Int) (ho : Ints w.heap.size w ov o) (hr : right o = false) :
    Calls Try.prog 25 #[ov] w fun e w' => e = .returned (.tuple #[.agg #[.slice none 0 0, .slice none 0 0], .int .i64 1]) ∧ Below w.heap.size w w' := by
  obtain ⟨w1, hw1⟩ : ∃ w1, w1 = w.alloc (.cells #[.slice none 0 0, .slice none 0 0] 56) := ⟨_, rfl⟩
  have b1 : Below w.heap.size w w1 := by rw [hw1]; exact (Below.refl _ w).alloc (Nat.le_refl _) _
  have hnw : w1.heap[w.heap.size]? = some (.cells #[.slice none 0 0, .slice none 0 0] 56 (0, 0)) := by rw [hw1]; exact World.alloc_heap_new _ _
  have hc := rright_any w1.heap.size w1 ov o ((ho.below b1 (Nat.le_refl _)).mono b1.size)
  rw [hr] at hc
  obtain ⟨oa, oc, rfl, _⟩ := id ho
  obtain ⟨c0, c1, q0, q1⟩ := two_cells hnw
  have HB := hide (And.intro b1 hnw)
  clear ho hr b1 hnw
  go_enter Try.func25, Try.ntmps25
  go_wp2_with fail
  rw [← hw1]
  refine hc.mono ?_
  clear hc
  rintro e w' ⟨rfl, hw'⟩
  subst hw'
  clear hw1
  go_wp2_with fail
  have hW := set_heap (set_heap (unhide HB).2 0 (.slice none 0 0)) 1 (.slice none 0 0)
  obtain ⟨d0, d1, _⟩ := two_cells (x := .slice none 0 0) (y := .slice none 0 0) (t := 56) hW
  refine bodyPost_ret (v := .tuple #[.agg #[.slice none 0 0, .slice none 0 0], .int .i64 1]) (by simp [results, Try.f25, go_sem, d0, d1]) rfl ?_
  exact ⟨rfl, ((unhide HB).1.setCell (p := ⟨w.heap.size, 0, none⟩) (Nat.le_refl _) _).setCell (p := ⟨w.heap.size, 1, none⟩) (Nat.le_refl _) _⟩


set_option maxRecDepth 100000 in
set_option maxHeartbeats 8000000 in
theorem begun_any (w : World) (ov ov' : Value) (o o' : List Int) (ho : Ints w.heap.size w ov o) (ho' : Ints w.heap.size w ov' o') :
    Calls Try.prog 9 #[ov, ov'] w fun e w' => (e = .returned (.tuple #[.pointer none, .bool true]) ∧ Below w.heap.size w w') ∨ (∃ tb s h s' h' cs S, e = .returned (.tuple #[.pointer (some ⟨tb, 0, none⟩), .bool true]) ∧ Pl S w w' tb s h s' h' 0 2 1 4 cs o o' [] []) := by
  have HO := hide (And.intro ho ho')
  obtain ⟨oa, oc, rfl, _⟩ := id ho
  obtain ⟨oa', oc', rfl, _⟩ := id ho'
  clear ho ho'
  have LATER : Hid (∀ w1, Below w.heap.size w w1 → Ints w1.heap.size w1 (.slice oa o.length oc) o ∧ Ints w1.heap.size w1 (.slice oa' o'.length oc') o') := fun w1 hb => ⟨((unhide HO).1.below hb (Nat.le_refl _)).mono hb.size, ((unhide HO).2.below hb (Nat.le_refl _)).mono hb.size⟩
  cases h1 : right o with
  | false =>
    cases h2 : right o' with
    | false =>
      have n1 := new_no w _ o (unhide HO).1 h1
      have H12 := hide (And.intro h1 h2)
      clear h1 h2
      go_enter Try.func9, Try.ntmps9
      go_wp2_with fail
      refine n1.mono ?_
      clear n1
      rintro e w1 ⟨rfl, b1⟩
      have n2 := new_no w1 _ o' (unhide LATER w1 b1).2 (unhide H12).2
      have HB1 := hide b1
      clear b1
      go_wp2_with fail
      refine n2.mono ?_
      clear n2
      rintro e w2 ⟨rfl, b2'⟩
      have b2 := (unhide HB1).trans (b2'.mono (unhide HB1).size)
      have n3 := rnew_nil w2 _ o (unhide LATER w2 b2).1 (unhide H12).1
      have HB2 := hide (And.intro b2 b2')
      clear b2 b2'
      go_wp2_with fail
      refine n3.mono ?_
      clear n3
      rintro e w3 ⟨rfl, b3'⟩
      obtain ⟨w4, hw4⟩ : ∃ w4, w4 = w3.alloc (.cells #[.slice none 0 0, .slice none 0 0] 56) := ⟨_, rfl⟩
      have b34 : Below w3.heap.size w3 w4 := by rw [hw4]; exact (Below.refl _ w3).alloc (Nat.le_refl _) _
      have b24 : Below w2.heap.size w2 w4 := b3'.trans (b34.mono b3'.size)
      have b4 : Below w.heap.size w w4 := (unhide HB2).1.trans (b24.mono (unhide HB2).1.size)
      have k4 : w4.heap[w3.heap.size]? = some (.cells #[.slice none 0 0, .slice none 0 0] 56 (0, 0)) := by rw [hw4]; exact World.alloc_heap_new _ _
      have l4 := lt_heap k4
      have n4 := rnew_nil w4 _ o' (unhide LATER w4 b4).2 (unhide H12).2
      have HB4 := hide (And.intro b4 (And.intro b24 (And.intro b3'.size k4)))
      clear b4 b24 b34 b3' k4
      go_wp2_with fail
      rw [← hw4]
      clear hw4
      refine n4.mono ?_
      clear n4
      rintro e w5 ⟨rfl, b5'⟩
      have b5 := (unhide HB4).1.trans (b5'.mono (unhide HB4).1.size)
      have HB5 := hide b5
      clear b5 b5'
      go_wp2_with fail
      go_ret2
      exact .inl ⟨rfl, (unhide HB5).alloc (unhide HB5).size _⟩
    | true =>
      have n1 := new_no w _ o (unhide HO).1 h1
      have H12 := hide (And.intro h1 h2)
      clear h1 h2
      go_enter Try.func9, Try.ntmps9
      go_wp2_with fail
      refine n1.mono ?_
      clear n1
      rintro e w1 ⟨rfl, b1⟩
      have n2 := new_T2 w1 _ o' (unhide LATER w1 b1).2 (unhide H12).2
      have HB1 := hide b1
      clear b1
      go_wp2_with fail
      refine n2.mono ?_
      clear n2
      rintro e w2 ⟨s', rfl, ⟨h', hT', lh'⟩, b2'⟩
      have HT' := hide (And.intro hT' lh')
      clear hT' lh'
      have b2 := (unhide HB1).trans (b2'.mono (unhide HB1).size)
      have n3 := rnew_nil w2 _ o (unhide LATER w2 b2).1 (unhide H12).1
      have HB2 := hide (And.intro b2 b2')
      clear b2 b2'
      go_wp2_with fail
      refine n3.mono ?_
      clear n3
      rintro e w3 ⟨rfl, b3'⟩
      obtain ⟨w4, hw4⟩ : ∃ w4, w4 = w3.alloc (.cells #[.slice none 0 0, .slice none 0 0] 56) := ⟨_, rfl⟩
      have b34 : Below w3.heap.size w3 w4 := by rw [hw4]; exact (Below.refl _ w3).alloc (Nat.le_refl _) _
      have b24 : Below w2.heap.size w2 w4 := b3'.trans (b34.mono b3'.size)
      have b4 : Below w.heap.size w w4 := (unhide HB2).1.trans (b24.mono (unhide HB2).1.size)
      have k4 : w4.heap[w3.heap.size]? = some (.cells #[.slice none 0 0, .slice none 0 0] 56 (0, 0)) := by rw [hw4]; exact World.alloc_heap_new _ _
      have l4 := lt_heap k4
      have n4 := rnew_any w4 _ o' (unhide LATER w4 b4).2 (unhide H12).2
      have HB4 := hide (And.intro b4 (And.intro b24 (And.intro b3'.size k4)))
      clear b4 b24 b34 b3' k4
      go_wp2_with fail
      rw [← hw4]
      clear hw4
      refine n4.mono ?_
      clear n4
      rintro e w5 ⟨ra', rc', rfl, hI', b5'⟩
      have b5 := (unhide HB4).1.trans (b5'.mono (unhide HB4).1.size)
      have HB5 := hide b5
      clear b5 b5' hI'
      go_wp2_with fail
      go_ret2
      exact .inl ⟨rfl, (unhide HB5).alloc (unhide HB5).size _⟩
  | true =>
    cases h2 : right o' with
    | false =>
      have n1 := new_T2 w _ o (unhide HO).1 h1
      have H12 := hide (And.intro h1 h2)
      clear h1 h2
      go_enter Try.func9, Try.ntmps9
      go_wp2_with fail
      refine n1.mono ?_
      clear n1
      rintro e w1 ⟨s, rfl, ⟨h, hT, lh⟩, b1⟩
      have HT := hide (And.intro hT lh)
      clear hT lh
      have n2 := new_no w1 _ o' (unhide LATER w1 b1).2 (unhide H12).2
      have HB1 := hide b1
      clear b1
      go_wp2_with fail
      refine n2.mono ?_
      clear n2
      rintro e w2 ⟨rfl, b2'⟩
      have b2 := (unhide HB1).trans (b2'.mono (unhide HB1).size)
      have n3 := rnew_any w2 _ o (unhide LATER w2 b2).1 (unhide H12).1
      have HB2 := hide (And.intro b2 b2')
      clear b2 b2'
      go_wp2_with fail
      refine n3.mono ?_
      clear n3
      rintro e w3 ⟨ra, rc, rfl, hI, b3'⟩
      obtain ⟨w4, hw4⟩ : ∃ w4, w4 = w3.alloc (.cells #[.slice ra o.length rc, .slice none 0 0] 56) := ⟨_, rfl⟩
      have b34 : Below w3.heap.size w3 w4 := by rw [hw4]; exact (Below.refl _ w3).alloc (Nat.le_refl _) _
      have b24 : Below w2.heap.size w2 w4 := b3'.trans (b34.mono b3'.size)
      have b4 : Below w.heap.size w w4 := (unhide HB2).1.trans (b24.mono (unhide HB2).1.size)
      have k4 : w4.heap[w3.heap.size]? = some (.cells #[.slice ra o.length rc, .slice none 0 0] 56 (0, 0)) := by rw [hw4]; exact World.alloc_heap_new _ _
      have l4 := lt_heap k4
      have n4 := rnew_nil w4 _ o' (unhide LATER w4 b4).2 (unhide H12).2
      have HI := hide (hI.later b34)
      clear hI
      have HB4 := hide (And.intro b4 (And.intro b24 (And.intro b3'.size k4)))
      clear b4 b24 b34 b3' k4
      go_wp2_with fail
      rw [← hw4]
      clear hw4
      refine n4.mono ?_
      clear n4
      rintro e w5 ⟨rfl, b5'⟩
      have b5 := (unhide HB4).1.trans (b5'.mono (unhide HB4).1.size)
      have HB5 := hide b5
      clear b5 b5'
      go_wp2_with fail
      go_ret2
      exact .inl ⟨rfl, (unhide HB5).alloc (unhide HB5).size _⟩
    | true =>
      have n1 := new_T2 w _ o (unhide HO).1 h1
      have H12 := hide (And.intro h1 h2)
      clear h1 h2
      go_enter Try.func9, Try.ntmps9
      go_wp2_with fail
      refine n1.mono ?_
      clear n1
      rintro e w1 ⟨s, rfl, ⟨h, hT, lh⟩, b1⟩
      have HT := hide (And.intro hT lh)
      clear hT lh
      have n2 := new_T2 w1 _ o' (unhide LATER w1 b1).2 (unhide H12).2
      have HB1 := hide b1
      clear b1
      go_wp2_with fail
      refine n2.mono ?_
      clear n2
      rintro e w2 ⟨s', rfl, ⟨h', hT', lh'⟩, b2'⟩
      have HT' := hide (And.intro hT' lh')
      clear hT' lh'
      have b2 := (unhide HB1).trans (b2'.mono (unhide HB1).size)
      have n3 := rnew_any w2 _ o (unhide LATER w2 b2).1 (unhide H12).1
      have HB2 := hide (And.intro b2 b2')
      clear b2 b2'
      go_wp2_with fail
      refine n3.mono ?_
      clear n3
      rintro e w3 ⟨ra, rc, rfl, hI, b3'⟩
      obtain ⟨w4, hw4⟩ : ∃ w4, w4 = w3.alloc (.cells #[.slice ra o.length rc, .slice none 0 0] 56) := ⟨_, rfl⟩
      have b34 : Below w3.heap.size w3 w4 := by rw [hw4]; exact (Below.refl _ w3).alloc (Nat.le_refl _) _
      have b24 : Below w2.heap.size w2 w4 := b3'.trans (b34.mono b3'.size)
      have b4 : Below w.heap.size w w4 := (unhide HB2).1.trans (b24.mono (unhide HB2).1.size)
      have k4 : w4.heap[w3.heap.size]? = some (.cells #[.slice ra o.length rc, .slice none 0 0] 56 (0, 0)) := by rw [hw4]; exact World.alloc_heap_new _ _
      have l4 := lt_heap k4
      have n4 := rnew_any w4 _ o' (unhide LATER w4 b4).2 (unhide H12).2
      have HI := hide (hI.later b34)
      clear hI
      have HB4 := hide (And.intro b4 (And.intro b24 (And.intro b3'.size k4)))
      clear b4 b24 b34 b3' k4
      go_wp2_with fail
      rw [← hw4]
      clear hw4
      refine n4.mono ?_
      clear n4
      rintro e w5 ⟨ra', rc', rfl, hI', b5'⟩
      have b5 := (unhide HB4).1.trans (b5'.mono (unhide HB4).1.size)
      obtain ⟨w6, hw6⟩ : ∃ w6, w6 = w5.alloc (.cells #[.slice ra' o'.length rc', .slice none 0 0] 56) := ⟨_, rfl⟩
      have b56 : Below w5.heap.size w5 w6 := by rw [hw6]; exact (Below.refl _ w5).alloc (Nat.le_refl _) _
      have b46 : Below w4.heap.size w4 w6 := b5'.trans (b56.mono b5'.size)
      have k6 : w6.heap[w5.heap.size]? = some (.cells #[.slice ra' o'.length rc', .slice none 0 0] 56 (0, 0)) := by rw [hw6]; exact World.alloc_heap_new _ _
      have k46 := (b46.block _ l4).trans (unhide HB4).2.2.2
      obtain ⟨c0, c1, _⟩ := two_cells ((b5'.block _ l4).trans (unhide HB4).2.2.2)
      have n35 : w3.heap.size ≠ w5.heap.size := by have := b5'.size; omega
      have l35 : w3.heap.size < w5.heap.size := by have := b5'.size; omega
      have b06 := b5.trans (b56.mono b5.size)
      have HI' := hide (hI'.later b56)
      have HB6 := hide (And.intro b06 (And.intro b46 (And.intro b5'.size b56.size)))
      have HW6 := hide hw6
      clear b5 b5' b56 b46 b06 k6 k46 hI' l4 hw6
      go_wp2_with fail
      rw [← unhide HW6]
      go_ret2
      refine .inr ?_
      obtain ⟨b06, b46, z5, z56⟩ := unhide HB6
      obtain ⟨b04, b24, z23, _⟩ := unhide HB4
      obtain ⟨b02, b12⟩ := unhide HB2
      obtain ⟨hT, lh⟩ := unhide HT
      obtain ⟨hT', lh'⟩ := unhide HT'
      have z1 := (unhide HB1).size
      have y1 := hT.lt
      have y2 := hT'.lt
      have z12 := b12.size
      have z24 := b24.size
      have z46 := b46.size
      have b26 : Below w2.heap.size w2 w6 := b24.trans (b46.mono z24)
      have b16 : Below w1.heap.size w1 w6 := b12.trans (b26.mono z12)
      obtain ⟨w7, hw7⟩ : ∃ w7, w7 = w6.alloc (.cells #[.pointer (some ⟨s, 0, none⟩), .pointer (some ⟨s', 0, none⟩), .slice ra o.length rc, .slice none 0 0, .slice ra' o'.length rc', .slice none 0 0] 66) := ⟨_, rfl⟩
      have b67 : Below w6.heap.size w6 w7 := by rw [hw7]; exact (Below.refl _ w6).alloc (Nat.le_refl _) _
      have k7 : w7.heap[w6.heap.size]? = some (.cells #[.pointer (some ⟨s, 0, none⟩), .pointer (some ⟨s', 0, none⟩), .slice ra o.length rc, .slice none 0 0, .slice ra' o'.length rc', .slice none 0 0] 66 (0, 0)) := by rw [hw7]; exact World.alloc_heap_new _ _
      have hnil : ∀ (S : Nat → Prop) (w : World), ListAt S w (.slice none 0 0) [] := fun S w => ⟨fun _ => undef, Row.nil _ _ _, fun j hj => (by cases hj)⟩
      have z67 : w7.heap.size = w6.heap.size + 1 := by rw [hw7]; simp
      have t1 := ((hT.mono (S' := fun b => b ≠ h ∧ b ≠ h' ∧ b ≠ w6.heap.size) (fun b hb hs => ⟨hs.2, by omega, by omega⟩) (fun e => e.1 rfl)).later b16).later b67
      have t2 := ((hT'.mono (S' := fun b => b ≠ h ∧ b ≠ h' ∧ b ≠ w6.heap.size) (fun b hb hs => ⟨by omega, hs.2, by omega⟩) (fun e => e.2.1 rfl)).later b26).later b67
      have i1 := (((unhide HI).mono (S' := fun b => b ≠ h ∧ b ≠ h' ∧ b ≠ w6.heap.size) (fun b hb hs => ⟨by omega, by omega, by omega⟩)).later b46).later b67
      have i2 := ((unhide HI').mono (S' := fun b => b ≠ h ∧ b ≠ h' ∧ b ≠ w6.heap.size) (fun b hb hs => ⟨by omega, by omega, by omega⟩)).later b67
      have e6 : w6.heap.size = w5.heap.size + 1 := by rw [unhide HW6]; simp
      rw [← hw7]
      refine ⟨w6.heap.size, s, h, s', h', _, (fun b => b ≠ h ∧ b ≠ h' ∧ b ≠ w6.heap.size), (by rw [e6]; rfl), t1, t2, ⟨⟨_, _, ⟨_, k7, rfl, rfl⟩, i1, hnil _ _, fun _ => rfl⟩, fun e => e.2.2 rfl⟩, ⟨⟨_, _, ⟨_, k7, rfl, rfl⟩, i2, hnil _ _, fun _ => rfl⟩, fun e => e.2.2 rfl⟩, rfl, rfl, ⟨fun e => e.1 rfl, fun e => e.2.1 rfl, fun e => e.2.2 rfl⟩, fun b hb => ⟨by omega, by omega, by omega⟩, ⟨by omega, by omega, by omega⟩, ⟨by omega, by omega, b06.size⟩, b06.trans (b67.mono b06.size), .inl ⟨rfl, rfl, rfl, rfl⟩⟩
end Go.Proofs.Ytmjlhmhkbfnccaa
