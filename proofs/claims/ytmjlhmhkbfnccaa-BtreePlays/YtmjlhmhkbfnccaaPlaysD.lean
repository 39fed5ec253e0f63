/- BtreePlays: in the end. -/
import Derived.Test.YtmjlhmhkbfnccaaPAC
import Derived.Test.YtmjlhmhkbfnccaaNews
import Derived.Test.YtmjlhmhkbfnccaaLawD
namespace Go.Proofs.Ytmjlhmhkbfnccaa
open Go.RowKit Go.Shelf Go.Maps

def StR (w : World) (i : Value) (wr : World) : Prop := ∃ k : Nat, k ≤ 2 ∧ i = .int .i64 k ∧ Below w.heap.size w wr

set_option maxRecDepth 100000 in
set_option maxHeartbeats 8000000 in
theorem stands_any (S : Nat → Prop) (W w : World) (tb s h s' h' : Nat) (cs : Array Value) (o o' : List Int) (A A' : List (List Int)) (hP : Pl S W w tb s h s' h' 0 2 1 4 cs o o' A A') :
    Calls Try.prog 12 #[.pointer (some ⟨tb, 0, none⟩)] w fun e w' => e = .returned (.bool true) ∧ Below w.heap.size w w' := by
  have HP := hide hP
  have mixed : Try.prog.follows .mixedOrders = true := by kernel_rfl
  clear hP
  go_enter Try.func12, Try.ntmps12
  go_wp2_with fail
  go_loopw [4] (fun i wr => StR w i wr) (fun i _ => 2 - (intOf i).toNat)
  case atStart => exact ⟨0, by omega, rfl, Below.refl _ _⟩
  case round =>
    obtain ⟨k, hk, rfl, hb⟩ := hrel
    by_cases hlt : k < 2
    · skip
      have GEN : ∃ (s2 h2 : Nat) (o2 : List Int) (A2 : List (List Int)) (oa : Option Addr) (oc : Nat) (ta : Option Addr) (tc : Nat), SetT S wr s2 h2 o2 A2 ∧ wr.cell? ⟨tb, k, none⟩ = some (.pointer (some ⟨s2, 0, none⟩)) ∧ wr.cell? ⟨tb, 2 + k * 2, none⟩ = some (.slice oa o2.length oc) ∧ wr.cell? ⟨tb, 2 + k * 2 + 1, none⟩ = some (.slice ta A2.length tc) ∧ IntsS S wr (.slice oa o2.length oc) o2 ∧ ListAt S wr (.slice ta A2.length tc) A2 := by
        have hPw := (unhide HP).later hb
        match k, hlt with
        | 0, _ =>
          obtain ⟨oa, oc, ta, tc, oa2, oc2, ta2, tc2, c0, _, c2, c3, _, _, _, _, _, _, l1, l2, _⟩ := hPw.cells
          exact ⟨s, h, o, A, oa, oc, ta, tc, hPw.t, c0, c2, c3, l1, l2⟩
        | 1, _ =>
          obtain ⟨oa, oc, ta, tc, oa2, oc2, ta2, tc2, c0, _, c2, c3, _, _, _, _, _, _, l1, l2, _⟩ := hPw.symm.cells
          exact ⟨s', h', o', A', oa, oc, ta, tc, hPw.t', c0, c2, c3, l1, l2⟩
      obtain ⟨s2, h2, o2, A2, oa, oc, ta, tc, hT, c0, c2, c3, l1, l2⟩ := GEN
      have hltb : tb < wr.heap.size := by obtain ⟨_, hz, _⟩ := cells_of_cell c0; exact lt_heap hz
      have CELL : Hid (∀ v, Below wr.heap.size wr v → v.cell? ⟨tb, k, none⟩ = some (.pointer (some ⟨s2, 0, none⟩)) ∧ v.cell? ⟨tb, 2 + k * 2, none⟩ = some (.slice oa o2.length oc) ∧ v.cell? ⟨tb, 2 + k * 2 + 1, none⟩ = some (.slice ta A2.length tc)) := fun v hv => ⟨(hv.cell (p := ⟨tb, k, none⟩) hltb).trans c0, (hv.cell (p := ⟨tb, 2 + k * 2, none⟩) hltb).trans c2, (hv.cell (p := ⟨tb, 2 + k * 2 + 1, none⟩) hltb).trans c3⟩
      have hg : (k : Int) < 2 := by omega
      have hlen := len_T S wr.drew s2 h2 o2 A2 (hT.later ((Below.refl _ wr).drew))
      have ORD : Hid (∀ v, Below wr.heap.size wr v → Calls Try.prog 27 #[.pointer (some ⟨s2, 0, none⟩)] v fun e w' => ∃ ra rc, e = .returned (.slice ra o2.length rc) ∧ Calls Try.prog 24 #[.slice ra o2.length rc, .slice oa o2.length oc] w' (fun e w3 => e = .returned (.bool true) ∧ Below wr.heap.size wr w3) ∧ Below wr.heap.size wr w') := fun v hv => by
        obtain ⟨l3, hS3, _⟩ := hT.later hv
        refine (order_set _ v s2 h2 o2 l3 hS3).mono ?_
        rintro e w' ⟨r2, rfl, hown, b2'⟩
        have b2 := hv.trans (b2'.mono hv.size)
        obtain ⟨ra, rc, e, _⟩ := id hown.intsS
        subst e
        have hsa := same_any w'.heap.size w' _ _ o2 o2 (Nat.le_refl _) hown.intsS.ints ((l1.later b2).ints)
        have e4 : sameB o2 o2 = true := by simp [sameB]
        rw [e4] at hsa
        exact ⟨ra, rc, rfl, hsa.mono (fun e w3 hh => ⟨hh.1, b2.trans (hh.2.mono b2.size)⟩), b2⟩
      have ALL : Hid (∀ v, Below wr.heap.size wr v → Calls Try.prog 18 #[.pointer (some ⟨s2, 0, none⟩)] v fun e w' => ∃ lb, e = .returned (.func (.func 41) #[] lb) ∧ Calls Try.prog 17 #[.func (.func 41) #[] lb] w' (fun e w3 => ∃ ra rc, e = .returned (.slice ra A2.length rc) ∧ Calls Try.prog 16 #[.slice ra A2.length rc, .slice ta A2.length tc] w3 (fun e w4 => e = .returned (.bool true) ∧ Below wr.heap.size wr w4) ∧ Below wr.heap.size wr w3) ∧ Below wr.heap.size wr w') := fun v hv => by
        refine (all_T S v s2 h2 o2 A2 (hT.later hv)).mono ?_
        rintro e v4 ⟨lb4, its4, rfl, hg4, he4, hn4, b4'⟩
        have b4 := hv.trans (b4'.mono hv.size)
        refine ⟨lb4, rfl, (list_G v4 _ lb4 its4 _ _ hg4 eg_all hn4 he4).mono ?_, b4⟩
        rintro e v5 ⟨rv5, rfl, hL5, b5'⟩
        have b5 := b4.trans (b5'.mono b4.size)
        obtain ⟨_, ⟨ra, rc, e, _⟩, _⟩ := id hL5
        subst e
        have hsm := rsame_any (fun _ => True) v5 _ _ _ _ (hL5.mono (fun _ _ _ => trivial)) ((l2.later b5).mono (fun _ _ _ => trivial))
        have e2 : sameLB A2 A2 = true := by simp [sameLB]
        rw [e2] at hsm
        exact ⟨ra, rc, rfl, hsm.mono (fun e w4 hh => ⟨hh.1, b5.trans (hh.2.mono b5.size)⟩), b5⟩
      have HB := hide hb
      clear hT l1 l2 hltb hb
      go_wp2_with fail
      refine region_mixN (md := [(0, true), (1, true), (2, true), (3, true), (4, true), (5, true), (7, true), (8, true), (9, true), (10, true), (11, true), (12, true), (13, true), (14, true), (6, false), (15, true), (16, true), (17, true), (18, true), (19, true), (20, true), (21, true), (22, true), (24, true), (25, true), (26, true), (27, true), (28, true), (29, true), (30, true), (23, false), (31, false), (32, true), (33, true), (34, true), (35, true), (36, true), (37, true), (38, true), (39, true), (40, true), (43, true), (44, true), (45, true), (46, true), (47, true), (48, true), (49, true), (41, false), (42, false), (50, false), (51, true), (52, true)]) (fun w' => Below wr.heap.size wr w') mixed (by kernel_rfl) rfl (by kernel_rfl) (fun PP hPP => ?_)
      iterate 14 (refine wpMix_take (v := ?_) rfl (by kernel_rfl) (fun w' hw => ?_) ?_; rotate_left; · (obtain ⟨q0, q2, q3⟩ := unhide CELL w' hw; go_simp; try with_reducible rfl))
      refine wpMix_force rfl ((Below.refl _ wr).drew) (fun K hK => ?_)
      go_simp
      refine hlen.mono ?_; clear hlen; rintro e v1 ⟨rfl, b1'⟩; have b1 : Below wr.heap.size wr v1 := ((Below.refl _ wr).drew).trans b1'; have hord := unhide ORD v1 b1; have B1 := hide b1; clear b1 b1'
      go_wp2_with fail


      iterate 15 (refine wpMix_take (v := ?_) rfl (by kernel_rfl) (fun w' hw => ?_) ?_; rotate_left; · (obtain ⟨q0, q2, q3⟩ := unhide CELL w' hw; go_simp; try with_reducible rfl))
      refine wpMix_force rfl (unhide B1) (fun K hK => ?_)
      go_simp
      refine hord.mono ?_; clear hord; rintro e v2 ⟨ra2, rc2, rfl, hsa, b2⟩; have B2 := hide b2; clear b2
      go_wp2_with fail


      refine wpMix_force rfl (unhide B2) (fun K hK => ?_)
      go_simp
      refine hsa.mono ?_; clear hsa; rintro e v3 ⟨rfl, b3⟩; have hall := unhide ALL v3 b3; have B3 := hide b3; clear b3
      go_wp2_with fail


      iterate 16 (refine wpMix_take (v := ?_) rfl (by kernel_rfl) (fun w' hw => ?_) ?_; rotate_left; · (obtain ⟨q0, q2, q3⟩ := unhide CELL w' hw; go_simp; try with_reducible rfl))
      refine wpMix_force rfl (unhide B3) (fun K hK => ?_)
      go_simp
      refine hall.mono ?_; clear hall; rintro e v4 ⟨lb4, rfl, hli, b4⟩; have B4 := hide b4; clear b4
      go_wp2_with fail


      refine wpMix_force rfl (unhide B4) (fun K hK => ?_)
      go_simp
      refine hli.mono ?_; clear hli; rintro e v5 ⟨ra5, rc5, rfl, hsm, b5⟩; have B5 := hide b5; clear b5
      go_wp2_with fail


      refine wpMix_force rfl (unhide B5) (fun K hK => ?_)
      go_simp
      refine hsm.mono ?_; clear hsm; rintro e v6 ⟨rfl, b6⟩; have B6 := hide b6; clear b6
      go_wp2_with fail


      iterate 2 (refine wpMix_take (v := ?_) rfl (by kernel_rfl) (fun w' hw => ?_) ?_; rotate_left; · (obtain ⟨q0, q2, q3⟩ := unhide CELL w' hw; go_simp; try with_reducible rfl))
      refine wpMix_nil (unhide B6) (hPP _ _ ?_)
      clear hPP
      all_goals
        go_wp2_with fail
        go_roundw
        case rel => exact ⟨k + 1, by omega, by go_num, (unhide HB).trans ((unhide B6).mono (unhide HB).size)⟩
        case measure => simp [intOf]; omega
    · have HB := hide hb
      have hg : ¬ ((k : Int) < 2) := by omega
      clear hb
      go_wp2_with fail
      go_ret
      exact ⟨rfl, unhide HB⟩
end Go.Proofs.Ytmjlhmhkbfnccaa
