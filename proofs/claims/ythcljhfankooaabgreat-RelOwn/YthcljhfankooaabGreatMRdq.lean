/- The document's relation: Put, a tuple that is new. The document's relation: Put, a tuple that is there; Put. RelOwn: the relation and the document's, side by side. -/
import Derived.Test.YthcljhfankooaabGreatMRdp
import Derived.Test.YthcljhfankooaabGreatMTwo
namespace Go.Proofs.YthcljhfankooaabGreat
open Go.RowKit Go.Shelf

theorem flat3_at {us : List (Value × Nrow)} {n : Nat} {x : Value × Nrow} : (us.take n ++ x :: us.drop n).map (·.2) = (us.map (·.2)).take n ++ x.2 :: (us.map (·.2)).drop n := by simp [List.map_take, List.map_drop]
theorem own_succ {base : Nat} {w : World} {v : Value} {k : Nat} {vs : List Value} (h : w.ownsRow base 69 3 v (k + 1) vs) : ∃ g cap, v = .slice (some ⟨g, 0, none⟩) (k + 1) cap := by
  rcases h.2 with ⟨_, e⟩ | ⟨g, cap, cur, e, _⟩
  · omega
  · exact ⟨g, cap, e⟩
/-- What a new row leaves. -/
theorem rdo_new {X : Nat → Prop} {base : Nat} {w w1 w5 : World} {qb wd n : Nat} {rv r4 u : Value} {us : List (Value × Nrow)} {t : List Int} {a k : Int} (hqb : base ≤ qb) (hq : w.heap[qb]? = some (.cells #[.int .i64 (wd : Int), rv] 29 (0, 0))) (hu : ∀ p ∈ us, IntsS (fun b => base ≤ b ∧ b ≠ qb ∧ ¬ X b) w p.1 p.2.1) (hX : ∀ b, X b → b < w.heap.size)
    (b1 : Below w.heap.size w w1) (b5 : Below w1.heap.size w1 w5) (hown : w5.ownsRow w1.heap.size 69 3 r4 (us.length + 1) (flat3 (us.take n ++ (u, (t, a, k)) :: us.drop n))) (hint : IntsS (fun b => w1.heap.size ≤ b ∧ some b ≠ r4.ownBlock) w5 u t) (hn : n ≤ us.length) :
    (∃ O', RDo X base (w5.setCell ⟨qb, 1, none⟩ r4) qb wd ((us.map (·.2)).take n ++ (t, a, k) :: (us.map (·.2)).drop n) O' ∧ ∀ b, O' b → b = qb ∨ w.heap.size ≤ b) ∧ Keeps (fun b => b = qb) w (w5.setCell ⟨qb, 1, none⟩ r4) := by
  have s1 := b1.size
  have b05 : Below w.heap.size w w5 := b1.trans (b5.mono s1)
  have hql := lt_heap hq
  have q5 : w5.heap[qb]? = _ := (b05.block _ hql).trans hq
  have kS : Keeps (fun b => b = qb) w5 (w5.setCell ⟨qb, 1, none⟩ r4) := (Keeps.refl (fun b => b = qb) w5).setCell ⟨qb, 1, none⟩ rfl r4
  refine ⟨⟨fun b => b = qb ∨ some b = r4.ownBlock, ⟨r4, us.take n ++ (u, (t, a, k)) :: us.drop n, hqb, (set_heap q5 1 r4).trans rfl, ?_, flat3_at, fun _ => Iff.rfl, fun p hp => ?_⟩, fun b hb => hb.imp id (fun e => by have := (hown.lt b e.symm).1; omega)⟩, (Keeps.of_below b05).trans kS (fun _ _ e => e)⟩
  · have e : (us.take n ++ (u, (t, a, k)) :: us.drop n).length = us.length + 1 := by simp; omega
    rw [e]
    rcases hown.2 with ⟨_, e⟩ | ⟨g, cap, cur, h1, h2, h3, h4⟩
    · omega
    · exact ⟨hown.1, .inr ⟨g, cap, cur, h1, by omega, kS.same _ _ h3 (fun e => by omega), h4⟩⟩
  · have hold : ∀ p ∈ us, IntsS (fun b => base ≤ b ∧ ¬ (b = qb ∨ some b = r4.ownBlock) ∧ ¬ X b) (w5.setCell ⟨qb, 1, none⟩ r4) p.1 p.2.1 := fun p hp =>
      ((((hu p hp).mono (S' := fun b => base ≤ b ∧ b ≠ qb ∧ b < w.heap.size ∧ ¬ X b) (fun b hb h => ⟨h.1, h.2.1, hb, h.2.2⟩)).later b05).stays (kS.stays (fun b _ h e => h.2.1 e))).mono (fun b _ h => ⟨h.1, fun e => e.elim h.2.1 (fun e => by have := (hown.lt b e.symm).1; have := h.2.2.1; omega), h.2.2.2⟩)
    rcases List.mem_append.1 hp with h | h
    · exact hold p (List.mem_of_mem_take h)
    · rcases List.mem_cons.1 h with h | h
      · rw [h]
        exact (hint.stays (kS.stays (fun b _ h e => by have := h.1; omega))).mono (fun b _ h => ⟨by have := h.1; omega, fun e => e.elim (fun e => by have := h.1; omega) h.2, fun e => by have := hX b e; have := h.1; omega⟩)
      · exact hold p (List.mem_of_mem_drop h)

set_option maxRecDepth 100000 in
set_option maxHeartbeats 4000000 in
theorem rdput_new1 (X : Nat → Prop) (base : Nat) (w : World) (qb wd g cap : Nat) (us : List (Value × Nrow)) (hw : wd ≤ 8) (hqb : base ≤ qb) (hbw : base ≤ w.heap.size) (hq : w.heap[qb]? = some (.cells #[.int .i64 (wd : Int), .slice (some ⟨g, 0, none⟩) us.length cap] 29 (0, 0))) (hrow : w.ownsRow base 69 3 (.slice (some ⟨g, 0, none⟩) us.length cap) us.length (flat3 us))
    (hu : ∀ p ∈ us, IntsS (fun b => base ≤ b ∧ b ≠ qb ∧ ¬ X b) w p.1 p.2.1) (hX : ∀ b, X b → b < w.heap.size) (hR : RDAt (fun _ => True) w qb wd (us.map (·.2))) (hl : us.length < 1024) (a k : Int) (t : List Int) (tv : Value) (ht : Ints w.heap.size w tv t) (htl : t.length = wd) (hno : atB wd t (us.map (·.2)) = false) :
    Calls Tryz.prog 10 #[.pointer (some ⟨qb, 0, none⟩), .int .i64 a, .int .i64 k, tv] w fun e w' => e = .returned (.tuple #[.bool true, .int .i64 0]) ∧ (∃ O', RDo X base w' qb wd ((us.map (·.2)).take (atD wd t (us.map (·.2))) ++ (t, a, k) :: (us.map (·.2)).drop (atD wd t (us.map (·.2)))) O' ∧ ∀ b, O' b → b = qb ∨ w.heap.size ≤ b) ∧ Keeps (fun b => b = qb) w w' := by
  have hat := rdat_any _ w qb wd _ hw hR t tv ht
  rw [hno] at hat
  have CELL : Hid (∀ v, Below w.heap.size w v → v.cell? ⟨qb, 0, none⟩ = some (.int .i64 (wd : Int)) ∧ v.cell? ⟨qb, 1, none⟩ = some (.slice (some ⟨g, 0, none⟩) us.length cap)) := fun v hv => by
    have q := (hv.block _ (lt_heap hq)).trans hq
    exact ⟨by rw [cell_at q]; rfl, by rw [cell_at q]; rfl⟩
  have FRO : Hid (∀ v, Below w.heap.size w v → v.frozen? ⟨qb, 1, none⟩ = false) := fun v hv => by
    have q := (hv.block _ (lt_heap hq)).trans hq
    simp [World.frozen?, q]
  obtain ⟨c0, c1⟩ := unhide CELL w (Below.refl _ w)
  have hz : ((t.length : Int) != (wd : Int)) = false := by rw [htl]; simp
  have hus : ¬ ((1024 : Int) ≤ (us.length : Int)) := by omega
  have hi : atD wd t (us.map (·.2)) ≤ us.length := by have := take_le (fun p : Nrow => decide (cmpA (plainL wd) p.1 t < 0)) (us.map (·.2)); simpa [atD] using this
  have hcap : us.length ≤ cap := by
    rcases hrow.2 with ⟨e, _⟩ | ⟨g', cap', cur, e, _, _, e4, _⟩
    · cases e
    · simp only [Value.slice.injEq] at e
      omega
  have APP := hide (fun (sa : Option Addr) (c9 : Nat) v (hv : Below w.heap.size w v) (hsa : atD wd t (us.map (·.2)) < us.length → sa = some ⟨g, atD wd t (us.map (·.2)) * 3, none⟩) => app4_run v us (ownsRow_step (b0 := 0) hrow (Step.of_below hv)) (fun _ => rfl) (fun p hp => (hu p hp).later hv) (atD wd t (us.map (·.2))) hi hl tv t ((ht.below hv (Nat.le_refl _)).mono hv.size) (by omega) a k (some ⟨g, 0, none⟩) sa cap c9 (fun _ => rfl) hsa)
  obtain ⟨ta, tc, et, _⟩ := id ht
  subst et
  generalize hnn : atD wd t (us.map (·.2)) = n at hat hi APP ⊢
  have HQ := hide (And.intro hqb (And.intro hq (And.intro hu (And.intro hX hbw))))
  have hi2 : (n : Int) ≤ (us.length : Int) := by omega
  clear hrow hq hu hR ht htl hno hnn hqb hbw hX
  go_enter Tryz.func10, Tryz.ntmps10
  go_wp2_with fail
  refine hat.mono ?_
  clear hat
  rintro e w1 ⟨rfl, b1⟩
  obtain ⟨d0, d1⟩ := unhide CELL w1 b1
  clear c0 c1
  by_cases hcn : n < cap
  case pos =>
    have hcn2 : ¬ (cap - n = 0) := by omega
    have hcn3 : ¬ (cap = n) := by omega
    obtain ⟨a1, k1, w2, a2, k2, w3, a3, k3, w4, r4, w5, hr1, hr2, hr3, hr4, hown, hint, b2, b4, b5⟩ := unhide APP (some ⟨g, n * 3, none⟩) (cap - n) w1 b1 (fun _ => rfl)
    obtain ⟨g4, c4, e4⟩ := own_succ hown
    subst e4
    obtain ⟨d4, d5⟩ := unhide CELL w4 (b1.trans (b4.mono b1.size))
    obtain ⟨d6, d7⟩ := unhide CELL w5 (b1.trans (b5.mono b1.size))
    have d8 := unhide FRO w5 (b1.trans (b5.mono b1.size))
    have H1 := hide hr1
    have H2 := hide hr2
    have H3 := hide hr3
    have H4 := hide hr4
    have HF := hide (And.intro hown (And.intro hint (And.intro b1 b5)))
    clear b1 b2 b4 b5 hr1 hr2 hr3 hr4 hown hint APP CELL FRO
    go_wp2_with (at_builtin; first
      | (refine C.wpList_append_run _ rfl _ _ 27 rfl _ _ rfl rfl _ _ (unhide H1) ?_; clear H1)
      | (refine C.wpList_append_run _ rfl _ _ 32 rfl _ _ rfl rfl _ _ (unhide H2) ?_; clear H2)
      | (refine C.wpList_append_run _ rfl _ _ 27 rfl _ _ rfl rfl _ _ (unhide H3) ?_; clear H3)
      | (refine C.wpList_append_run _ rfl _ _ 27 rfl _ _ rfl rfl _ _ (unhide H4) ?_; clear H4))
    go_ret2
    obtain ⟨hown, hint, b1, b5⟩ := unhide HF
    obtain ⟨hqb, hq, hu, hX, hbw⟩ := unhide HQ
    exact ⟨rfl, rdo_new hqb hq hu hX b1 b5 hown hint hi⟩
  case neg =>
    have hcn2 : cap - n = 0 := by omega
    have hcn3 : cap ≤ n := by omega
    obtain ⟨a1, k1, w2, a2, k2, w3, a3, k3, w4, r4, w5, hr1, hr2, hr3, hr4, hown, hint, b2, b4, b5⟩ := unhide APP (some ⟨g, 0, none⟩) (cap - n) w1 b1 (fun h => by omega)
    obtain ⟨g4, c4, e4⟩ := own_succ hown
    subst e4
    obtain ⟨d4, d5⟩ := unhide CELL w4 (b1.trans (b4.mono b1.size))
    obtain ⟨d6, d7⟩ := unhide CELL w5 (b1.trans (b5.mono b1.size))
    have d8 := unhide FRO w5 (b1.trans (b5.mono b1.size))
    have H1 := hide hr1
    have H2 := hide hr2
    have H3 := hide hr3
    have H4 := hide hr4
    have HF := hide (And.intro hown (And.intro hint (And.intro b1 b5)))
    clear b1 b2 b4 b5 hr1 hr2 hr3 hr4 hown hint APP CELL FRO
    go_wp2_with (at_builtin; first
      | (refine C.wpList_append_run _ rfl _ _ 27 rfl _ _ rfl rfl _ _ (unhide H1) ?_; clear H1)
      | (refine C.wpList_append_run _ rfl _ _ 32 rfl _ _ rfl rfl _ _ (unhide H2) ?_; clear H2)
      | (refine C.wpList_append_run _ rfl _ _ 27 rfl _ _ rfl rfl _ _ (unhide H3) ?_; clear H3)
      | (refine C.wpList_append_run _ rfl _ _ 27 rfl _ _ rfl rfl _ _ (unhide H4) ?_; clear H4))
    go_ret2
    obtain ⟨hown, hint, b1, b5⟩ := unhide HF
    obtain ⟨hqb, hq, hu, hX, hbw⟩ := unhide HQ
    exact ⟨rfl, rdo_new hqb hq hu hX b1 b5 hown hint hi⟩

set_option maxRecDepth 100000 in
set_option maxHeartbeats 4000000 in
theorem rdput_new0 (X : Nat → Prop) (base : Nat) (w : World) (qb wd : Nat) (hw : wd ≤ 8) (hqb : base ≤ qb) (hbw : base ≤ w.heap.size) (hq : w.heap[qb]? = some (.cells #[.int .i64 (wd : Int), .slice none 0 0] 29 (0, 0)))
    (hX : ∀ b, X b → b < w.heap.size) (hR : RDAt (fun _ => True) w qb wd []) (a k : Int) (t : List Int) (tv : Value) (ht : Ints w.heap.size w tv t) (htl : t.length = wd) :
    Calls Tryz.prog 10 #[.pointer (some ⟨qb, 0, none⟩), .int .i64 a, .int .i64 k, tv] w fun e w' => e = .returned (.tuple #[.bool true, .int .i64 0]) ∧ (∃ O', RDo X base w' qb wd [(t, a, k)] O' ∧ ∀ b, O' b → b = qb ∨ w.heap.size ≤ b) ∧ Keeps (fun b => b = qb) w w' := by
  have hat := rdat_any _ w qb wd _ hw hR t tv ht
  have z1 : atD wd t [] = 0 := rfl
  have z2 : atB wd t [] = false := rfl
  rw [z1, z2] at hat
  have CELL : Hid (∀ v, Below w.heap.size w v → v.cell? ⟨qb, 0, none⟩ = some (.int .i64 (wd : Int)) ∧ v.cell? ⟨qb, 1, none⟩ = some (.slice none 0 0)) := fun v hv => by
    have q := (hv.block _ (lt_heap hq)).trans hq
    exact ⟨by rw [cell_at q]; rfl, by rw [cell_at q]; rfl⟩
  have FRO : Hid (∀ v, Below w.heap.size w v → v.frozen? ⟨qb, 1, none⟩ = false) := fun v hv => by
    have q := (hv.block _ (lt_heap hq)).trans hq
    simp [World.frozen?, q]
  obtain ⟨c0, c1⟩ := unhide CELL w (Below.refl _ w)
  have hz : ((t.length : Int) != (wd : Int)) = false := by rw [htl]; simp
  have APP := hide (fun v (hv : Below w.heap.size w v) => app4_run (g := 0) (ra := none) (cap := 0) (B := fun _ => True) (base := base) v [] (World.ownsRow_nil _ _ _ _) (fun h => absurd rfl h) (fun p hp => by cases hp) 0 (Nat.le_refl _) (by simp) tv t ((ht.below hv (Nat.le_refl _)).mono hv.size) (by omega) a k none none 0 0 (fun h => absurd h (Nat.lt_irrefl _)) (fun h => absurd h (Nat.lt_irrefl _)))
  obtain ⟨ta, tc, et, _⟩ := id ht
  subst et
  have HQ := hide (And.intro hqb (And.intro hq (And.intro hX hbw)))
  clear hq hR ht htl hqb hbw hX z1 z2
  go_enter Tryz.func10, Tryz.ntmps10
  go_wp2_with fail
  refine hat.mono ?_
  clear hat
  rintro e w1 ⟨rfl, b1⟩
  obtain ⟨d0, d1⟩ := unhide CELL w1 b1
  clear c0 c1
  obtain ⟨a1, k1, w2, a2, k2, w3, a3, k3, w4, r4, w5, hr1, hr2, hr3, hr4, hown, hint, b2, b4, b5⟩ := unhide APP w1 b1
  obtain ⟨g4, c4, e4⟩ := own_succ hown
  subst e4
  obtain ⟨d4, d5⟩ := unhide CELL w4 (b1.trans (b4.mono b1.size))
  obtain ⟨d6, d7⟩ := unhide CELL w5 (b1.trans (b5.mono b1.size))
  have d8 := unhide FRO w5 (b1.trans (b5.mono b1.size))
  simp only [List.length_nil, Nat.sub_self, Nat.zero_add] at hr1 hr3 hr4
  have H1 := hide hr1
  have H2 := hide hr2
  have H3 := hide hr3
  have H4 := hide hr4
  have HF := hide (And.intro hown (And.intro hint (And.intro b1 b5)))
  clear b1 b2 b4 b5 hr1 hr2 hr3 hr4 hown hint APP CELL FRO
  go_wp2_with (at_builtin; first
    | (refine C.wpList_append_run _ rfl _ _ 27 rfl _ _ rfl rfl _ _ (unhide H1) ?_; clear H1)
    | (refine C.wpList_append_run _ rfl _ _ 32 rfl _ _ rfl rfl _ _ (unhide H2) ?_; clear H2)
    | (refine C.wpList_append_run _ rfl _ _ 27 rfl _ _ rfl rfl _ _ (unhide H3) ?_; clear H3)
    | (refine C.wpList_append_run _ rfl _ _ 27 rfl _ _ rfl rfl _ _ (unhide H4) ?_; clear H4))
  go_ret2
  obtain ⟨hown, hint, b1, b5⟩ := unhide HF
  obtain ⟨hqb, hq, hX, hbw⟩ := unhide HQ
  exact ⟨rfl, rdo_new hqb hq (us := []) (fun p hp => by cases hp) hX b1 b5 hown hint (Nat.le_refl _)⟩
end Go.Proofs.YthcljhfankooaabGreat

namespace Go.Proofs.YthcljhfankooaabGreat
open Go.RowKit Go.Shelf

theorem atB_mem {wd : Nat} (hw : wd ≤ 8) {t : List Int} (ht : t.length = wd) : ∀ (R : List Nrow), UpC R → (∀ p ∈ R, p.1.length = wd) → t ∈ nKeys R → atB wd t R = true
  | [], _, _, h => by simp [nKeys] at h
  | p :: r, hu, hl, h => by
    have hp := cmp_plain hw (hl p List.mem_cons_self) ht
    have hu' := List.pairwise_cons.1 hu
    by_cases e : lexC p.1 t < 0
    · have e2 : atD wd t (p :: r) = atD wd t r + 1 := by unfold atD; rw [List.takeWhile_cons, if_pos (by rw [hp]; simpa using e)]; rfl
      have hne : t ≠ p.1 := fun e3 => by rw [e3, lexC_self] at e; omega
      have h2 : t ∈ nKeys r := by
        simp only [nKeys, List.map_cons, List.mem_cons] at h
        rcases h with h | h
        · exact absurd h hne
        · exact h
      have ih := atB_mem hw ht r hu'.2 (fun q hq => hl q (List.mem_cons_of_mem _ hq)) h2
      unfold atB at ih ⊢
      rw [e2, List.getElem?_cons_succ]
      exact ih
    · have e2 : atD wd t (p :: r) = 0 := by unfold atD; rw [List.takeWhile_cons, if_neg (by rw [hp]; simpa using e)]; rfl
      have h2 : p.1 = t := by
        simp only [nKeys, List.map_cons, List.mem_cons] at h
        rcases h with h | h
        · exact h.symm
        · obtain ⟨q, hq, eq⟩ := List.mem_map.1 h
          have := hu'.1 q hq
          rw [eq] at this
          exact absurd this e
      unfold atB
      rw [e2, List.getElem?_cons_zero]
      simp [sameB, h2]
theorem atB_get {wd : Nat} {t : List Int} {R : List Nrow} (h : atB wd t R = true) : ∃ p, R[atD wd t R]? = some p ∧ p.1 = t := by
  unfold atB at h
  split at h
  · rename_i p hp
    exact ⟨p, hp, by simpa [sameB] using h⟩
  · cases h

set_option maxRecDepth 100000 in
set_option maxHeartbeats 4000000 in
theorem rdput_old (w : World) (qb wd : Nat) (R : List Nrow) (hw : wd ≤ 8) (hR : RDAt (fun _ => True) w qb wd R) (a k : Int) (t : List Int) (tv : Value) (ht : Ints w.heap.size w tv t) (htl : t.length = wd) (hyes : atB wd t R = true) (hh : ∀ p ∈ R, p.2.1 < a) :
    Calls Tryz.prog 10 #[.pointer (some ⟨qb, 0, none⟩), .int .i64 a, .int .i64 k, tv] w fun e w' => e = .returned (.tuple #[.bool false, .int .i64 0]) ∧ Below w.heap.size w w' := by
  have hat := rdat_any _ w qb wd _ hw hR t tv ht
  rw [hyes] at hat
  obtain ⟨p0, hp0, _⟩ := atB_get hyes
  obtain ⟨rv, hq, ra, rc, erv, hc1, hc2, hrows⟩ := id hR
  subst erv
  have hlt : atD wd t R < R.length := (List.getElem?_eq_some_iff.1 hp0).1
  obtain ⟨b, u, p, e1, _, e3, e4, e5, e6, e7⟩ := hrows _ hlt
  subst e1
  have hpa := hh p (List.mem_of_getElem? e3)
  have e8 : ¬ (a < p.2.1) := by omega
  have e9 : (a == p.2.1) = false := by simpa using (by omega : a ≠ p.2.1)
  obtain ⟨ua, uc, eu, _⟩ := id e7
  subst eu
  obtain ⟨ta, tc, et, _⟩ := id ht
  subst et
  generalize p.2.1 = ph at e5 e8 e9
  generalize p.2.2 = pk at e6
  generalize p.1.length = ul at e4
  have CELL : Hid (∀ v, Below w.heap.size w v → v.cell? ⟨qb, 0, none⟩ = some (.int .i64 (wd : Int)) ∧ v.cell? ⟨qb, 1, none⟩ = some (.slice (some ⟨b, 0, none⟩) R.length rc) ∧ v.cell? ⟨b, atD wd t R * 3, none⟩ = some (.slice ua ul uc) ∧ v.cell? ⟨b, atD wd t R * 3 + 1, none⟩ = some (.int .i64 ph) ∧ v.cell? ⟨b, atD wd t R * 3 + 2, none⟩ = some (.int .i64 pk)) := fun v hv => by
    have q := (hv.block _ (lt_heap hq)).trans hq
    obtain ⟨ob, ho, _⟩ := cells_of_cell e4
    exact ⟨by rw [cell_at q]; rfl, by rw [cell_at q]; rfl, (hv.cell (p := ⟨b, atD wd t R * 3, none⟩) (lt_heap ho)).trans e4, (hv.cell (p := ⟨b, atD wd t R * 3 + 1, none⟩) (lt_heap ho)).trans e5, (hv.cell (p := ⟨b, atD wd t R * 3 + 2, none⟩) (lt_heap ho)).trans e6⟩
  obtain ⟨c0, c1, c2, c3, c4⟩ := unhide CELL w (Below.refl _ w)
  have hz : ((t.length : Int) != (wd : Int)) = false := by rw [htl]; simp
  generalize atD wd t R = n at hat hlt CELL c2 c3 c4
  clear hR hq hrows e4 e5 e6 e7 e3 hpa ht htl hyes hp0 hh
  go_enter Tryz.func10, Tryz.ntmps10
  go_wp2_with fail
  refine hat.mono ?_
  clear hat
  rintro e w1 ⟨rfl, b1⟩
  obtain ⟨d0, d1, d2, d3, d4⟩ := unhide CELL w1 b1
  have B1 := hide b1
  clear c0 c1 c2 c3 c4 b1 CELL
  go_wp2_with fail
  go_ret2
  exact ⟨rfl, (unhide B1).alloc (unhide B1).size _⟩
/-- Put, of a height that is none yet. -/
theorem rdput_any (X : Nat → Prop) (base : Nat) (w : World) (qb wd : Nat) (R : List Nrow) (O : Nat → Prop) (h : RDo X base w qb wd R O) (hX : ∀ b, X b → b < w.heap.size) (hw : wd ≤ 8) (hbw : base ≤ w.heap.size) (hl : R.length < 1024) (hU : UpC R) (hlen : ∀ p ∈ R, p.1.length = wd) (a k : Int) (hh : ∀ p ∈ R, p.2.1 < a) (t : List Int) (tv : Value) (ht : Ints w.heap.size w tv t) :
    Calls Tryz.prog 10 #[.pointer (some ⟨qb, 0, none⟩), .int .i64 a, .int .i64 k, tv] w fun e w' => (∃ b c, e = .returned (.tuple #[.bool b, .int .i64 c])) ∧ (∃ O', RDo X base w' qb wd (if t.length = wd then insD t a k R else R) O' ∧ ∀ b, O' b → O b ∨ w.heap.size ≤ b) ∧ Keeps O w w' := by
  by_cases htl : t.length = wd
  case neg =>
    obtain ⟨rv, us, h1, h2, h3, h4, h5, h6⟩ := id h
    obtain ⟨ta, tc, rfl, _⟩ := id ht
    refine (rdput_wide w qb wd rv h2 a k ta t.length tc htl).mono ?_
    rintro e w' ⟨rfl, b⟩
    rw [if_neg htl]
    exact ⟨⟨_, _, rfl⟩, ⟨O, h.later b, fun b hb => .inl hb⟩, Keeps.of_below b⟩
  rw [if_pos htl]
  cases hb : atB wd t R with
  | true =>
    refine (rdput_old w qb wd R hw h.at a k t tv ht htl hb hh).mono ?_
    rintro e w' ⟨rfl, b⟩
    obtain ⟨p, hp, hpt⟩ := atB_get hb
    have hin : (t, p.2) ∈ R := by rw [← hpt]; exact List.mem_of_getElem? hp
    have hpa := hh _ hin
    have hbet : betB a k p.2.1 p.2.2 = false := by
      unfold betB
      simp only at hpa
      rw [if_neg (by omega)]
      simp; omega
    rw [insD_old t a k p.2 R hU hin, hbet, if_neg (by simp)]
    exact ⟨⟨_, _, rfl⟩, ⟨O, h.later b, fun b hb => .inl hb⟩, Keeps.of_below b⟩
  | false =>
    have hno : t ∉ nKeys R := fun e => by rw [atB_mem hw htl R hU hlen e] at hb; cases hb
    rw [insD_at hw htl a k R hlen hno]
    have hR := h.at
    obtain ⟨rv, us, h1, h2, h3, h4, h5, h6⟩ := h
    subst h4
    have hu : ∀ p ∈ us, IntsS (fun b => base ≤ b ∧ b ≠ qb ∧ ¬ X b) w p.1 p.2.1 := fun p hp => (h6 p hp).mono (fun b _ h => ⟨h.1, fun e => h.2.1 ((h5 b).2 (.inl e)), h.2.2⟩)
    have hl' : us.length < 1024 := by simpa using hl
    have fin : ∀ (e : Ending) (w' : World), (e = .returned (.tuple #[.bool true, .int .i64 0]) ∧ (∃ O', RDo X base w' qb wd ((us.map (·.2)).take (atD wd t (us.map (·.2))) ++ (t, a, k) :: (us.map (·.2)).drop (atD wd t (us.map (·.2)))) O' ∧ ∀ b, O' b → b = qb ∨ w.heap.size ≤ b) ∧ Keeps (fun b => b = qb) w w') → (∃ b c, e = .returned (.tuple #[.bool b, .int .i64 c])) ∧ (∃ O', RDo X base w' qb wd ((us.map (·.2)).take (atD wd t (us.map (·.2))) ++ (t, a, k) :: (us.map (·.2)).drop (atD wd t (us.map (·.2)))) O' ∧ ∀ b, O' b → O b ∨ w.heap.size ≤ b) ∧ Keeps O w w' := by
      rintro e w' ⟨rfl, ⟨O', g1, g2⟩, g3⟩
      exact ⟨⟨_, _, rfl⟩, ⟨O', g1, fun b hb => (g2 b hb).imp (fun e => (h5 b).2 (.inl e)) id⟩, g3.mono (fun b e => (h5 b).2 (.inl e))⟩
    rcases id h3.2 with ⟨e, e2⟩ | ⟨g, cap, cur, e, _⟩
    · subst e
      have hnil : us = [] := List.length_eq_zero_iff.1 e2
      subst hnil
      exact (rdput_new0 X base w qb wd hw h1 hbw h2 hX hR a k t tv ht htl).mono fin
    · subst e
      exact (rdput_new1 X base w qb wd g cap us hw h1 hbw h2 h3 hu hX hR hl' a k t tv ht htl hb).mono fin
end Go.Proofs.YthcljhfankooaabGreat

namespace Go.Proofs.YthcljhfankooaabGreat
open Go.RowKit Go.Shelf

section
variable {w w' : World} {rb hb mb wd : Nat} {sh : List (Nat × Nat)} {os : List (List Int)} {ns : List Nrow}
/-- What lies apart is written, and there is more to keep off. -/
theorem HAt.turn {X : Xt} {X' O : Nat → Prop} (h : @HAt X w hb mb sh wd os ns) (hk : Keeps O w w') (hO : ∀ b, O b → X.x b) (hD : ∀ b ∈ Dk hb mb sh, ¬ O b) (h1 : ∀ b, X' b → X.x b ∨ w.heap.size ≤ b) (h2 : ∀ b, X' b → b < w'.heap.size) : @HAt ⟨X'⟩ w' hb mb sh wd os ns :=
  have hm : ∀ b, b < w.heap.size → @Fre X hb mb sh b → @Fre X hb mb sh b ∧ @Fre ⟨X'⟩ hb mb sh b := fun b hl hs => ⟨hs, hs.1, fun e => (h1 b e).elim hs.2 (fun e => by omega)⟩
  have hst : Stays (fun b => @Fre X hb mb sh b ∧ @Fre ⟨X'⟩ hb mb sh b) w w' := hk.stays (fun b _ hs e => hs.1.2 (hO b e))
  have h' := h.off hk hO hD
  @HAt.mk ⟨X'⟩ w' hb mb sh wd os ns h'.nd h'.wd8 h'.len h'.pos h'.ok (by
    obtain ⟨ov, sv, g1, g2, g3⟩ := h.mem
    exact ⟨ov, sv, hk.same _ _ g1 (hD _ (by simp [Dk])), ((g2.mono hm).stays hst).mono (fun _ _ h => h.2), ((g3.mono hm).stays hst).mono (fun _ _ h => h.2)⟩) (fun j hj => by
    obtain ⟨xs, g1, g2⟩ := h.sets j hj
    have hin : (sh.getD j (0, 0)).2 ∈ Dk hb mb sh := by simp only [Dk, List.mem_cons]; exact .inr (.inr (sh_in h.len hj))
    have hl := g1.lt
    refine ⟨xs, ((g1.mono hm (fun hs => hs.1.1 hin)).stays hst ?_).mono (fun _ _ h => h.2) (fun hs => hs.1 hin), g2⟩
    rw [Array.getElem?_eq_getElem hl]
    exact hk.same _ _ (Array.getElem?_eq_getElem hl) (hD _ hin)) h'.map h'.keys h2
theorem RelAt.turn {X : Xt} {X' O : Nat → Prop} (h : @RelAt X w rb hb mb sh wd os ns) (hk : Keeps O w w') (hO : ∀ b, O b → X.x b) (hD : ∀ b ∈ Dk hb mb sh, ¬ O b) (h1 : ∀ b, X' b → X.x b ∨ w.heap.size ≤ b) (h2 : ∀ b, X' b → b < w'.heap.size) : @RelAt ⟨X'⟩ w' rb hb mb sh wd os ns :=
  @RelAt.mk ⟨X'⟩ _ _ _ _ _ _ _ _ (HAt.turn h.held hk hO hD h1 h2) (hk.same _ _ h.box (fun e => h.fre.2 (hO _ e))) ⟨h.fre.1, fun e => (h1 _ e).elim h.fre.2 (fun e => by have := lt_heap h.box; omega)⟩
theorem rl_keys {X : Xt} (h : @RelAt X w rb hb mb sh wd os ns) : (nKeys ns).Nodup ∧ ∀ p ∈ ns, p.1.length = wd := ⟨h.held.keys.1, fun p hp => (h.held.keys.2 p hp).1⟩
theorem rl_ext {X : Xt} (h : @RelAt X w rb hb mb sh wd os ns) : ∀ b, X.x b → b < w.heap.size := h.held.ext
end
theorem RDo.keeps {X P O : Nat → Prop} {base : Nat} {w w' : World} {qb wd : Nat} {R : List Nrow} (h : RDo X base w qb wd R O) (hk : Keeps P w w') (h1 : ∀ b, P b → X b) (h2 : ∀ b, P b → ¬ O b) : RDo X base w' qb wd R O := by
  obtain ⟨rv, us, g1, g2, g3, g4, g5, g6⟩ := h
  refine ⟨rv, us, g1, hk.same _ _ g2 (fun e => h2 _ e ((g5 _).2 (.inl rfl))), ⟨g3.1, ?_⟩, g4, g5, fun p hp => (g6 p hp).stays (hk.stays (fun b _ hs e => hs.2.2 (h1 b e)))⟩
  rcases g3.2 with e | ⟨g, cap, cur, e1, e2, e3, e4⟩
  · exact .inl e
  · exact .inr ⟨g, cap, cur, e1, e2, hk.same _ _ e3 (fun e => h2 _ e ((g5 _).2 (.inr (by rw [e1]; rfl)))), e4⟩
theorem RDo.wider {X X' O : Nat → Prop} {base : Nat} {w w' : World} {qb wd : Nat} {R : List Nrow} (h : RDo X base w qb wd R O) (hb : Below w.heap.size w w') (h1 : ∀ b, X' b → X b ∨ w.heap.size ≤ b) : RDo X' base w' qb wd R O := by
  obtain ⟨rv, us, g1, g2, g3, g4, g5, g6⟩ := h
  exact ⟨rv, us, g1, (hb.block _ (lt_heap g2)).trans g2, ownsRow_step (b0 := 0) g3 (Step.of_below hb), g4, g5, fun p hp => ((g6 p hp).mono (fun b hl hs => ⟨hs.1, hs.2.1, fun e => (h1 b e).elim hs.2.2 (fun e => by omega)⟩)).later hb⟩
theorem RDo.olt {X O : Nat → Prop} {base : Nat} {w : World} {qb wd : Nat} {R : List Nrow} (h : RDo X base w qb wd R O) : ∀ b, O b → base ≤ b ∧ b < w.heap.size := fun b hb => by
  obtain ⟨rv, us, g1, g2, g3, g4, g5, g6⟩ := h
  rcases (g5 b).1 hb with e | e
  · rw [e]; exact ⟨g1, lt_heap g2⟩
  · exact g3.lt b e.symm
theorem ownI_keeps {P : Nat → Prop} {base : Nat} {w w' : World} {v : Value} {l : List Int} (h : OwnI base w v l) (hk : Keeps P w w') (hn : ∀ b, some b = v.ownBlock → ¬ P b) : OwnI base w' v l := by
  refine ⟨h.1, ?_⟩
  rcases h.2 with e | ⟨g, cap, cur, e1, e2, e3, e4⟩
  · exact .inl e
  · exact .inr ⟨g, cap, cur, e1, e2, hk.same _ _ e3 (hn g (by rw [e1]; rfl)), e4⟩
theorem OwnI.block {base : Nat} {A : World} {v : Value} {l : List Int} (h : OwnI base A v l) : ∀ b, some b = v.ownBlock → base ≤ b ∧ b < A.heap.size := fun b hb => World.ownsRow.lt h b hb.symm
theorem OwnI.intsS_own {S : Nat → Prop} {base : Nat} {w : World} {v : Value} {l : List Int} (h : OwnI base w v l) (hS : ∀ b, some b = v.ownBlock → S b) : IntsS S w v l := by
  obtain ⟨a, cap, e, h1, h2, hc⟩ := h.intsS
  refine ⟨a, cap, e, h1, h2, fun j hj => ?_⟩
  obtain ⟨b, off, e1, _, hcell⟩ := hc j hj
  exact ⟨b, off, e1, hS b (by rw [e, e1]; rfl), hcell⟩
theorem insD_in (t : List Int) (a k : Int) : ∀ (R : List Nrow) (x : Nrow), x ∈ insD t a k R → x = (t, a, k) ∨ x ∈ R
  | [], x, h => by simp [insD] at h; exact .inl h
  | p :: r, x, h => by
    unfold insD at h
    split at h
    · rcases List.mem_cons.1 h with h | h
      · exact .inr (by rw [h]; exact List.mem_cons_self)
      · exact (insD_in t a k r x h).imp id (fun h => List.mem_cons_of_mem _ h)
    · split at h
      · rcases List.mem_cons.1 h with h | h
        · split at h
          · exact .inl h
          · exact .inr (by rw [h]; exact List.mem_cons_self)
        · exact .inr (List.mem_cons_of_mem _ h)
      · rcases List.mem_cons.1 h with h | h
        · exact .inl h
        · exact .inr h

/-- The relation, the document's, and what else it must keep off (X). -/
structure OwnS (W : World) (rb qb wd hb mb : Nat) (sh : List (Nat × Nat)) (os : List (List Int)) (X : Nat → Prop) (i : Nat) (ns R : List Nrow) (O : Nat → Prop) (wr : World) : Prop where
  rel : @RelAt ⟨fun b => O b ∨ X b⟩ wr rb hb mb sh wd os ns
  doc : RDo (fun b => b ∈ Dk hb mb sh ∨ X b) W.heap.size wr qb wd R O
  dk : ∀ b ∈ Dk hb mb sh, W.heap.size ≤ b ∧ ¬ O b
  xs : ∀ b, X b → W.heap.size ≤ b ∧ ¬ O b ∧ b ∉ Dk hb mb sh
  perm : R.Perm ns
  up : UpC R
  hi : ∀ p ∈ R, p.2.1 < (i : Int)
  len : ns.length ≤ i
  bel : Below W.heap.size W wr
section
variable {W : World} {rb qb wd hb mb : Nat} {sh : List (Nat × Nat)} {os : List (List Int)} {i : Nat} {ns R : List Nrow} {O : Nat → Prop}
theorem OwnS.later {X : Nat → Prop} {wr w' : World} (h : OwnS W rb qb wd hb mb sh os X i ns R O wr) (b : Below wr.heap.size wr w') : OwnS W rb qb wd hb mb sh os X i ns R O w' :=
  ⟨rl_later h.rel b, h.doc.later b, h.dk, h.xs, h.perm, h.up, h.hi, h.len, h.bel.trans (b.mono h.bel.size)⟩
/-- A copy is made. -/
theorem OwnS.more {wr w5 : World} {r : Value} {x : List Int} (h : OwnS W rb qb wd hb mb sh os (fun _ => False) i ns R O wr) (b : Below wr.heap.size wr w5) (hr : OwnI wr.heap.size w5 r x) : OwnS W rb qb wd hb mb sh os (fun b => some b = r.ownBlock) i ns R O w5 :=
  have hs := h.bel.size
  have hlt := rl_lt h.rel
  have hol := h.doc.olt
  ⟨RelAt.wider h.rel b (fun c e => e.elim (fun e => .inl (.inl e)) (fun e => .inr (hr.block c e).1)) (fun c e => e.elim (fun e => by have := (hol c e).2; have := b.size; omega) (fun e => (hr.block c e).2)),
    h.doc.wider b (fun c e => e.elim (fun e => .inl (.inl e)) (fun e => .inr (hr.block c e).1)), h.dk,
    fun c e => ⟨by have := (hr.block c e).1; omega, fun e2 => by have := (hol c e2).2; have := (hr.block c e).1; omega, fun e2 => by have := hlt c e2; have := (hr.block c e).1; omega⟩, h.perm, h.up, h.hi, h.len, h.bel.trans (b.mono hs)⟩
/-- The copy is forgotten. -/
theorem OwnS.less {X : Nat → Prop} {wr : World} (h : OwnS W rb qb wd hb mb sh os X i ns R O wr) : OwnS W rb qb wd hb mb sh os (fun _ => False) i ns R O wr :=
  have hol := h.doc.olt
  ⟨RelAt.wider h.rel (Below.refl _ wr) (fun _ e => e.elim (fun e => .inl (.inl e)) (fun e => e.elim)) (fun c e => e.elim (fun e => (hol c e).2) (fun e => e.elim)),
    h.doc.wider (Below.refl _ wr) (fun _ e => e.elim (fun e => .inl (.inl e)) (fun e => e.elim)), h.dk, fun _ e => e.elim, h.perm, h.up, h.hi, h.len, h.bel⟩
/-- The copy is written over. -/
theorem OwnS.wrote {X : Nat → Prop} {wr w' : World} (h : OwnS W rb qb wd hb mb sh os X i ns R O wr) (hk : Keeps X wr w') : OwnS W rb qb wd hb mb sh os X i ns R O w' :=
  ⟨rl_off h.rel hk (fun _ e => .inr e) (fun b e e2 => (h.xs b e2).2.2 e), h.doc.keeps hk (fun _ e => .inr e) (fun b e => (h.xs b e).2.1), h.dk, h.xs, h.perm, h.up, h.hi, h.len, h.bel.trans (hk.below h.bel.size (fun b e => (h.xs b e).1))⟩
end
/-- Both take a tuple: first the relation. -/
structure OwnT (W : World) (rb qb wd hb mb : Nat) (sh : List (Nat × Nat)) (os : List (List Int)) (X : Nat → Prop) (i : Nat) (ns ns' R : List Nrow) (O : Nat → Prop) (wr : World) : Prop where
  rel : @RelAt ⟨fun b => O b ∨ X b⟩ wr rb hb mb sh wd os ns'
  doc : RDo (fun b => b ∈ Dk hb mb sh ∨ X b) W.heap.size wr qb wd R O
  dk : ∀ b ∈ Dk hb mb sh, W.heap.size ≤ b ∧ ¬ O b
  xs : ∀ b, X b → W.heap.size ≤ b ∧ ¬ O b ∧ b ∉ Dk hb mb sh
  perm : R.Perm ns
  up : UpC R
  hi : ∀ p ∈ R, p.2.1 < (i : Int)
  keys : (nKeys ns).Nodup ∧ ∀ p ∈ ns, p.1.length = wd
  len : ns.length ≤ i
  bel : Below W.heap.size W wr
theorem own_put {W w5 : World} {rb qb wd hb mb : Nat} {sh : List (Nat × Nat)} {os : List (List Int)} {i : Nat} {ns R : List Nrow} {O : Nat → Prop} {r : Value} {x : List Int} {n0 : Nat} (h : OwnS W rb qb wd hb mb sh os (fun b => some b = r.ownBlock) i ns R O w5) (hr : OwnI n0 w5 r x) (hB : Bnd x) (fx fy : Nat) (hx : W64 fx) (hy : W64 fy) (hi : i ≤ 1000) :
    Calls Tryz.prog 8 #[.pointer (some ⟨rb, 0, none⟩), .complex .f64 fx fy, r] w5 fun e w' => (∃ b c, e = .returned (.tuple #[.bool b, .int .i64 c])) ∧ OwnT W rb qb wd hb mb sh os (fun b => some b = r.ownBlock) i ns (rputTo fx fy x wd ns) R O w' ∧ OwnI n0 w' r x := by
  have hxs := h.xs
  have hint : IntsS (fun b => b ∉ Dk hb mb sh) w5 r x := OwnI.intsS_own hr (fun b e => (hxs b e).2.2)
  refine (@rput_any ⟨fun b => O b ∨ some b = r.ownBlock⟩ w5 rb hb mb wd sh os ns h.rel x r hint hB fx fy hx hy (.inr (by have := h.len; omega))).mono ?_
  rintro e w' ⟨rfl, r1, r2⟩
  exact ⟨⟨_, _, rfl⟩, ⟨r1, h.doc.keeps r2 (fun _ e => .inl e) (fun b e => (h.dk b e).2), h.dk, h.xs, h.perm, h.up, h.hi, rl_keys h.rel, h.len, h.bel.trans (r2.below h.bel.size (fun b e => (h.dk b e).1))⟩, ownI_keeps hr r2 (fun b e e2 => (hxs b e).2.2 e2)⟩
theorem own_rput {W w6 : World} {rb qb wd hb mb : Nat} {sh : List (Nat × Nat)} {os : List (List Int)} {i n0 : Nat} {ns R : List Nrow} {O : Nat → Prop} {r : Value} {t : List Int} (hw : wd ≤ 8) (hi : i ≤ 1000) (h : OwnT W rb qb wd hb mb sh os (fun b => some b = r.ownBlock) i ns (rputTo (floatOfInt .f64 (i : Int)) (floatOfInt .f64 2) t wd ns) R O w6) (hr : OwnI n0 w6 r t) (tv : Value) (ht : Ints w6.heap.size w6 tv t) :
    Calls Tryz.prog 10 #[.pointer (some ⟨qb, 0, none⟩), .int .i64 (i : Int), .int .i64 2, tv] w6 fun e w' => (∃ b c, e = .returned (.tuple #[.bool b, .int .i64 c])) ∧ (∃ ns' R' O', OwnS W rb qb wd hb mb sh os (fun b => some b = r.ownBlock) (i + 1) ns' R' O' w') ∧ OwnI n0 w' r t := by
  have hol := h.doc.olt
  have hlt := rl_lt h.rel
  have hext := rl_ext h.rel
  have hlenR : R.length = ns.length := h.perm.length_eq
  have hX : ∀ b, (b ∈ Dk hb mb sh ∨ some b = r.ownBlock) → b < w6.heap.size := fun b e => e.elim (fun e => hlt b e) (fun e => hext b (.inr e))
  have hl := h.len
  refine (rdput_any _ W.heap.size w6 qb wd R O h.doc hX hw h.bel.size (by omega) h.up (fun p hp => h.keys.2 p (h.perm.mem_iff.1 hp)) (i : Int) 2 h.hi t tv ht).mono ?_
  rintro e w' ⟨he, ⟨O', hd, ho⟩, hk⟩
  have hxO : ∀ b, some b = r.ownBlock → ¬ O' b := fun b e e2 => (ho b e2).elim (fun e2 => (h.xs b e).2.1 e2) (fun e2 => by have := hext b (.inr e); omega)
  have hol' := hd.olt
  refine ⟨he, ⟨rputTo (floatOfInt .f64 (i : Int)) (floatOfInt .f64 2) t wd ns, if t.length = wd then insD t (i : Int) 2 R else R, O', ?_, hd, fun b e => ⟨(h.dk b e).1, fun e2 => (ho b e2).elim (h.dk b e).2 (fun e2 => by have := hlt b e; omega)⟩, fun b e => ⟨(h.xs b e).1, hxO b e, (h.xs b e).2.2⟩, ?_, ?_, ?_, ?_, h.bel.trans (hk.below h.bel.size (fun b e => (hol b e).1))⟩, ownI_keeps hr hk (fun b e e2 => (h.xs b e).2.1 e2)⟩
  · refine RelAt.turn h.rel hk (fun _ e => .inl e) (fun b e => (h.dk b e).2) (fun b e => e.elim (fun e => (ho b e).imp .inl id) (fun e => .inl (.inr e))) (fun b e => e.elim (fun e => (hol' b e).2) (fun e => by have := hext b (.inr e); have := hk.size; omega))
  · have i1 : inN (i : Int) = true := inN_of (by omega)
    have i2 : inN 2 = true := by decide
    obtain ⟨p1, p2⟩ := partB_int (inN_abs i1)
    obtain ⟨q1, q2⟩ := partB_int (inN_abs i2)
    have hB : hgtB (floatOfInt .f64 (i : Int)) (floatOfInt .f64 2) = true := by unfold hgtB; rw [p1, q1]; rfl
    unfold rputTo
    rw [hB, p2, q2]
    by_cases htl : t.length = wd
    · rw [if_pos htl, if_pos ⟨htl, rfl⟩]
      exact put_perm h.perm h.up h.keys.1 t _ _ (by omega)
    · rw [if_neg htl, if_neg (fun e => htl e.1)]
      exact h.perm
  · split
    · exact insD_up t _ _ R h.up
    · exact h.up
  · intro p hp
    split at hp
    · rcases insD_in t _ _ R p hp with e | e
      · rw [e]; simp only; omega
      · have := h.hi p e; omega
    · have := h.hi p hp; omega
  · have := rput_many (floatOfInt .f64 (i : Int)) (floatOfInt .f64 2) t wd ns
    omega
end Go.Proofs.YthcljhfankooaabGreat
