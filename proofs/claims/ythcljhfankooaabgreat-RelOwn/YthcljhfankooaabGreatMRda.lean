/- The document's relation: the order as the columns stand. The document's relation: the place of a tuple. -/
import Derived.Test.YthcljhfankooaabGreatMTwo
namespace Go.Proofs.YthcljhfankooaabGreat
open Go.RowKit Go.Shelf

def plainL (n : Nat) : List Int := (List.range n).map (fun k : Nat => (k : Int))
theorem plain_len (n : Nat) : (plainL n).length = n := by simp [plainL]
theorem plain_succ (n : Nat) : plainL (n + 1) = plainL n ++ [(n : Int)] := by simp [plainL, List.range_succ]
def PlR (w : World) (n : Nat) (l i : Value) (wr : World) : Prop := ∃ k : Nat, k ≤ n ∧ i = .int .i64 (k : Int) ∧ C.OwnI w.heap.size wr l (plainL k) ∧ Below w.heap.size w wr

set_option maxRecDepth 100000 in
set_option maxHeartbeats 4000000 in
theorem rplain_any (w : World) (wd : Nat) (hw : wd ≤ 8) : Calls Tryz.prog 51 #[.int .i64 (wd : Int)] w fun e w' => ∃ r, e = .returned r ∧ Ints w'.heap.size w' r (plainL wd) ∧ Below w.heap.size w w' := by
  have HS : Hid (PlR w wd (.slice none 0 0) (.int .i64 0) w) := ⟨0, Nat.zero_le _, rfl, World.ownsRow_nil _ _ _ _, Below.refl _ _⟩
  go_enter Tryz.func51, Tryz.ntmps51
  go_wp2_with fail
  go_loopw [3, 4] (fun l i wr => PlR w wd l i wr) (fun _ i _ => wd - (intOf i).toNat)
  case atStart => exact unhide HS
  case round =>
    obtain ⟨k, hk, rfl, hown, hbl⟩ := hrel
    by_cases hkN : k < wd
    · obtain ⟨r, w7, hrun, hown7, hK7, hr7⟩ := C.app1_run wr _ _ (k : Int) hown hbl.size (by rw [plain_len]; omega)
      have b7 : Below w.heap.size w w7 := hbl.trans (hK7.below hbl.size (fun b e => (hown.block b e).1))
      have HN : Hid (PlR w wd r (.int .i64 ((k + 1 : Nat) : Int)) w7) := ⟨k + 1, by omega, rfl, by rw [plain_succ]; exact hown7, b7⟩
      obtain ⟨va, vn, vc, rfl⟩ : ∃ va vn vc, u3 = .slice va vn vc := by
        rcases hown.2 with ⟨e, _⟩ | ⟨g, cap, cur, e, _⟩
        · exact ⟨_, _, _, e⟩
        · exact ⟨_, _, _, e⟩
      have HRUN := hide hrun
      have hg : (k : Int) < (wd : Int) := by omega
      clear hown hbl hrun hown7 hK7 hr7 b7
      go_wp2_with (at_builtin; refine C.wpList_append_run _ rfl _ _ 32 rfl _ _ rfl rfl _ _ (unhide HRUN) ?_)
      go_roundw
      case rel =>
        have := unhide HN
        rw [Int.natCast_add] at this
        exact this
      case measure => simp [intOf]; omega
    · have hkN2 : k = wd := by omega
      subst hkN2
      have HE := hide (And.intro hown hbl)
      clear hown hbl
      go_wp2_with fail
      go_ret
      obtain ⟨hown, hbl⟩ := unhide HE
      exact ⟨_, rfl, hown.intsS.ints, hbl⟩
end Go.Proofs.YthcljhfankooaabGreat

namespace Go.Proofs.YthcljhfankooaabGreat
open Go.RowKit Go.Shelf

/-- The document's relation. -/
def RDAt (B : Nat → Prop) (w : World) (qb wd : Nat) (R : List Nrow) : Prop := ∃ rv, w.heap[qb]? = some (.cells #[.int .i64 (wd : Int), rv] 29 (0, 0)) ∧ DRowsAt B w rv R
theorem RDAt.later {B : Nat → Prop} {w w' : World} {qb wd : Nat} {R : List Nrow} (h : RDAt B w qb wd R) (hb : Below w.heap.size w w') : RDAt B w' qb wd R := by
  obtain ⟨rv, h1, h2⟩ := h
  exact ⟨rv, (hb.block _ (lt_heap h1)).trans h1, h2.later hb⟩
def atD (wd : Nat) (t : List Int) (R : List Nrow) : Nat := (R.takeWhile fun p => decide (cmpA (plainL wd) p.1 t < 0)).length
def atB (wd : Nat) (t : List Int) (R : List Nrow) : Bool := match R[atD wd t R]? with
  | some p => sameB p.1 t
  | none => false
theorem take_in {α : Type} (f : α → Bool) : ∀ (l : List α) (k : Nat) (p : α), k < (l.takeWhile f).length → l[k]? = some p → f p = true
  | a :: r, k, p, hk, hp => by
    unfold List.takeWhile at hk
    split at hk
    · rename_i h
      cases k with
      | zero => simp at hp; rw [← hp]; exact h
      | succ k => exact take_in f r k p (by simpa using hk) (by simpa using hp)
    · simp at hk
theorem take_out {α : Type} (f : α → Bool) : ∀ (l : List α) (p : α), l[(l.takeWhile f).length]? = some p → f p = false
  | a :: r, p, hp => by
    unfold List.takeWhile at hp
    split at hp
    · exact take_out f r p (by simpa using hp)
    · rename_i h
      simp at hp
      rw [← hp]
      simpa using h
theorem take_le {α : Type} (f : α → Bool) (l : List α) : (l.takeWhile f).length ≤ l.length := (List.takeWhile_sublist f).length_le
theorem wpMix_skip {P : Program} {ops : Array Oper} {C : World → Prop} {Q : Exit → Act → World → Prop} {r : List (Nat × Bool)} {a : Act} {w : World} {k : Nat} {o : Oper} (ho : ops[k]? = some o) (hC : C w) (hw : Region.wanted o (yielded ops a.tmps) = false) (h : wpMix P ops C Q r (a.put o.dst undef) w) : wpMix P ops C Q ((k, false) :: r) a w :=
  wpMix_force ho hC (fun K hK => by rw [if_neg (by rw [hw]; decide)]; exact hK _ _ h)
def AtR (w : World) (n : Nat) (i : Value) (wr : World) : Prop := ∃ k : Nat, k ≤ n ∧ i = .int .i64 (k : Int) ∧ Below w.heap.size w wr

set_option maxRecDepth 100000 in
set_option maxHeartbeats 4000000 in
theorem rdat_any (B : Nat → Prop) (w : World) (qb wd : Nat) (R : List Nrow) (hw : wd ≤ 8) (h : RDAt B w qb wd R) (t : List Int) (tv : Value) (ht : Ints w.heap.size w tv t) :
    Calls Tryz.prog 30 #[.pointer (some ⟨qb, 0, none⟩), tv] w fun e w' => e = .returned (.tuple #[.int .i64 (atD wd t R : Int), .bool (atB wd t R)]) ∧ Below w.heap.size w w' := by
  have mixed : Tryz.prog.follows .mixedOrders = true := by kernel_rfl
  obtain ⟨rv, h1, h2⟩ := h
  obtain ⟨ra, rc, erv, hc1, hc2, hR⟩ := id h2
  subst erv
  have hql := lt_heap h1
  have BOX : Hid (∀ v, Below w.heap.size w v → v.cell? ⟨qb, 0, none⟩ = some (.int .i64 (wd : Int)) ∧ v.cell? ⟨qb, 1, none⟩ = some (.slice ra R.length rc)) := fun v hv => by
    have q := (hv.block _ hql).trans h1
    exact ⟨by rw [cell_at q]; rfl, by rw [cell_at q]; rfl⟩
  have hLR : atD wd t R ≤ R.length := take_le _ _
  have HIN : Hid (∀ k p, k < atD wd t R → R[k]? = some p → cmpA (plainL wd) p.1 t < 0) := fun k p hk hp => by simpa using take_in _ R k p hk hp
  have HOUT : Hid (∀ p, R[atD wd t R]? = some p → 0 ≤ cmpA (plainL wd) p.1 t ∧ atB wd t R = sameB p.1 t) := fun p hp => ⟨by simpa using take_out _ R p hp, by unfold atB; rw [hp]⟩
  have HEND : Hid (atD wd t R = R.length → atB wd t R = false) := fun e => by unfold atB; rw [List.getElem?_eq_none (by omega)]
  generalize atD wd t R = L at hLR HIN HOUT HEND ⊢
  generalize atB wd t R = LB at HOUT HEND ⊢
  obtain ⟨ta, tc, et, _⟩ := id ht
  subst et
  have HH := hide (And.intro h2 ht)
  have PLAIN : Hid (∀ v, Calls Tryz.prog 51 #[.int .i64 (wd : Int)] v fun e w' => ∃ r, e = .returned r ∧ Ints w'.heap.size w' r (plainL wd) ∧ Below v.heap.size v w') := fun v => rplain_any v wd hw
  clear h1 h2 hR ht hql
  go_enter Tryz.func30, Tryz.ntmps30
  go_wp2_with fail
  go_loopw [6] (fun i wr => AtR w L i wr) (fun i _ => L - (intOf i).toNat)
  case atStart => exact ⟨0, Nat.zero_le _, rfl, Below.refl _ _⟩
  case round =>
    obtain ⟨k, hk, rfl, hb⟩ := hrel
    by_cases hlt : k < R.length
    · obtain ⟨a', c', e1, _, _, f1⟩ := (unhide HH).1.later hb
      simp only [Value.slice.injEq] at e1
      obtain ⟨b1, u1, p1, i1, _, i3, i4, _, _, i7⟩ := f1 k hlt
      have ea1 : ra = some ⟨b1, 0, none⟩ := e1.1.trans i1
      have hlb1 : b1 < wr.heap.size := by obtain ⟨_, hz, _⟩ := cells_of_cell i4; exact lt_heap hz
      obtain ⟨ua1, uc1, eu1, _⟩ := id i7
      subst ea1
      subst eu1
      have CELL : Hid (∀ v, Below wr.heap.size wr v → v.cell? ⟨qb, 0, none⟩ = some (.int .i64 (wd : Int)) ∧ v.cell? ⟨qb, 1, none⟩ = some (.slice (some ⟨b1, 0, none⟩) R.length rc) ∧ v.cell? ⟨b1, k * 3, none⟩ = some (.slice ua1 p1.1.length uc1)) := fun v hv =>
        ⟨(unhide BOX v (hb.trans (hv.mono hb.size))).1, (unhide BOX v (hb.trans (hv.mono hb.size))).2, (hv.cell (p := ⟨b1, k * 3, none⟩) hlb1).trans i4⟩
      have CMP : Hid (∀ v r, Below wr.heap.size wr v → Ints v.heap.size v r (plainL wd) → Calls Tryz.prog 50 #[r, .slice ua1 p1.1.length uc1, .slice ta t.length tc] v fun e w' => e = .returned (.int .i64 (cmpA (plainL wd) p1.1 t)) ∧ Below wr.heap.size wr w') := fun v r hv hr => by
        refine (rcmp_any v.heap.size v r _ _ (plainL wd) p1.1 t (Nat.le_refl _) hr (i7.later hv).ints (((unhide HH).2.below (hb.trans (hv.mono hb.size)) (Nat.le_refl _)).mono (by have := hb.size; have := hv.size; omega))).mono ?_
        rintro e w' ⟨rfl, bb⟩
        exact ⟨rfl, hv.trans (bb.mono hv.size)⟩
      have SAME : Hid (∀ v, Below wr.heap.size wr v → Calls Tryz.prog 52 #[.slice ua1 p1.1.length uc1, .slice ta t.length tc] v fun e w' => e = .returned (.bool (sameB p1.1 t)) ∧ Below v.heap.size v w') := fun v hv => same_any v.heap.size v _ _ p1.1 t (Nat.le_refl _) (i7.later hv).ints (((unhide HH).2.below (hb.trans (hv.mono hb.size)) (Nat.le_refl _)).mono (by have := hb.size; have := hv.size; omega))
      have hcase : (k < L ∧ cmpA (plainL wd) p1.1 t < 0) ∨ (k = L ∧ 0 ≤ cmpA (plainL wd) p1.1 t ∧ LB = sameB p1.1 t) := by
        by_cases e : k < L
        · exact .inl ⟨e, unhide HIN k p1 e i3⟩
        · have ek : k = L := by omega
          exact .inr ⟨ek, unhide HOUT p1 (ek ▸ i3)⟩
      generalize cmpA (plainL wd) p1.1 t = cc at CMP hcase
      have HC := hide hcase
      have HB := hide hb
      have hg : (k : Int) < (R.length : Int) := by omega
      clear f1 e1 i1 i3 i4 i7 hlb1 hb hcase
      go_wp2_with fail
      refine region_mixN (md := [(0, true), (1, true), (2, true), (3, true), (4, true), (5, true), (6, true), (7, true), (8, true), (9, true), (10, true), (11, true), (13, true), (14, true), (15, true), (16, true), (17, true), (18, true), (19, true), (20, true), (21, true), (12, false), (22, false), (23, true), (24, true)]) (fun w' => Below wr.heap.size wr w') mixed (by kernel_rfl) rfl (by kernel_rfl) (fun PP hPP => ?_)
      iterate 21 (refine wpMix_take (v := ?_) rfl (by kernel_rfl) (fun w' hw => ?_) ?_; rotate_left; · (obtain ⟨q1, q2, q3⟩ := unhide CELL w' hw; go_simp; try with_reducible rfl))
      refine wpMix_force rfl ((Below.refl _ wr).drew) (fun K hK => ?_)
      go_simp
      refine (unhide PLAIN _).mono ?_
      rintro e v1 ⟨r1, rfl, hr1, b1'⟩
      have bb1 : Below wr.heap.size wr v1 := ((Below.refl _ wr).drew).trans b1'
      have hcm := unhide CMP v1 r1 bb1 hr1
      obtain ⟨pa, pc, er1, _⟩ := id hr1
      subst er1
      have V1 := hide bb1
      clear b1' bb1 hr1
      go_wp2_with fail
      refine wpMix_force rfl (unhide V1) (fun K hK => ?_)
      go_simp
      refine hcm.mono ?_
      clear hcm
      rintro e v2 ⟨rfl, b2⟩
      have V2 := hide b2
      clear b2
      go_wp2_with fail
      rcases unhide HC with ⟨hkL, hcc⟩ | ⟨hkL, hcc, hLB⟩
      · refine wpMix_take (v := .bool true) rfl (by kernel_rfl) (fun w' hw => ?_) ?_
        · go_simp
        refine wpMix_take (v := .bool true) rfl (by kernel_rfl) (fun w' hw => ?_) ?_
        · go_simp
        refine wpMix_nil (unhide V2) (hPP _ _ ?_)
        clear hPP
        simp [Act.put, Array.setIfInBounds]
        go_wp2_with fail
        go_roundw
        case rel => exact ⟨k + 1, by omega, by go_num, (unhide HB).trans ((unhide V2).mono (unhide HB).size)⟩
        case measure => simp [intOf]; omega
      · have hcc' : ¬ cc < 0 := by omega
        refine wpMix_take (v := .bool false) rfl (by kernel_rfl) (fun w' hw => ?_) ?_
        · go_simp
        refine wpMix_take (v := .bool false) rfl (by kernel_rfl) (fun w' hw => ?_) ?_
        · go_simp
        refine wpMix_nil (unhide V2) (hPP _ _ ?_)
        clear hPP
        simp [Act.put, Array.setIfInBounds]
        obtain ⟨q1, q2, q3⟩ := unhide CELL v2 (unhide V2)
        have hsm := unhide SAME v2 (unhide V2)
        have HL := hide (And.intro hkL hLB)
        clear hkL hLB hcc hcc'
        go_wp2_with fail
        refine hsm.mono ?_
        clear hsm
        rintro e v3 ⟨rfl, b3⟩
        have V3 := hide ((unhide V2).trans (b3.mono (unhide V2).size))
        clear b3
        go_wp2_with fail
        go_ret2
        exact ⟨by rw [(unhide HL).1, (unhide HL).2]; rfl, (unhide HB).trans ((unhide V3).mono (unhide HB).size)⟩
    · have hkL : k = L := by omega
      have hLR2 : L = R.length := by omega
      have hg : ¬ ((k : Int) < (R.length : Int)) := by omega
      have hLB := unhide HEND hLR2
      have CELL : Hid (∀ v, Below wr.heap.size wr v → v.cell? ⟨qb, 0, none⟩ = some (.int .i64 (wd : Int)) ∧ v.cell? ⟨qb, 1, none⟩ = some (.slice ra R.length rc)) := fun v hv =>
        ⟨(unhide BOX v (hb.trans (hv.mono hb.size))).1, (unhide BOX v (hb.trans (hv.mono hb.size))).2⟩
      have HB := hide hb
      have HL := hide (And.intro hkL hLB)
      clear hb hkL hLR2 hLB
      go_wp2_with fail
      refine region_mixN (md := [(0, true), (1, true), (2, true), (3, true), (4, true), (5, true), (6, true), (7, true), (8, true), (9, true), (10, true), (11, true), (13, true), (14, true), (15, true), (16, true), (17, true), (18, true), (19, true), (20, true), (21, true), (12, false), (22, false), (23, true), (24, true)]) (fun w' => Below wr.heap.size wr w') mixed (by kernel_rfl) rfl (by kernel_rfl) (fun PP hPP => ?_)
      iterate 6 (refine wpMix_take (v := ?_) rfl (by kernel_rfl) (fun w' hw => ?_) ?_; rotate_left; · (obtain ⟨q1, q2⟩ := unhide CELL w' hw; go_simp; try with_reducible rfl))
      iterate 2 (refine wpMix_take (v := .bool false) rfl (by kernel_rfl) (fun w' hw => ?_) ?_; · go_simp)
      iterate 13 (refine wpMix_pass rfl (by kernel_rfl) ?_)
      iterate 2 (refine wpMix_skip rfl ((Below.refl _ wr).drew) (by kernel_rfl) ?_)
      refine wpMix_pass rfl (by kernel_rfl) ?_
      refine wpMix_take (v := .bool false) rfl (by kernel_rfl) (fun w' hw => ?_) ?_
      · go_simp
      refine wpMix_nil ((Below.refl _ wr).drew) (hPP _ _ ?_)
      clear hPP
      simp [Act.put, Array.setIfInBounds]
      obtain ⟨q1, q2⟩ := unhide CELL wr.drew ((Below.refl _ wr).drew)
      go_wp2_with fail
      go_ret2
      exact ⟨by rw [(unhide HL).1, (unhide HL).2]; rfl, (unhide HB).drew⟩
end Go.Proofs.YthcljhfankooaabGreat
