/- RelNotes: the walk. The statement on RelNotes: the height and the rule of a note, and the note of a height and a rule, as the document has them. No condition. -/
import Derived.Test.YthcljhfankooaaaGreatMAliv
import Derived.Test.YthcljhfankooaaaGreatMFrame
namespace Go.Proofs.YthcljhfankooaaaGreat
open Go.RowKit Go.Shelf

set_option maxRecDepth 100000 in
set_option maxHeartbeats 4000000 in
theorem notes_walk (w : World) (re im : Nat) (hr : W64 re) (hi : W64 im) (h k : Int) : Calls Tryz.prog 4 #[.agg #[.float .f64 re, .float .f64 im], .int .i64 h, .int .i64 k] w fun e w' => e = .returned (.bool true) ∧ Below w.heap.size w w' := by
  have hh := fun w => height_any re im hr hi w
  have hrh := fun w => rheight_any re im w
  have hnt := fun w => note_any h k w
  have hn1 := fun w => nright_any h w
  have hn2 := fun w => nright_any k w
  have hm := fun a b w => height_made h k a b w
  have hal := fun w => alive_any w
  clear hr hi
  generalize hgtN re im re = A at hh hrh
  generalize hgtN re im im = B at hh hrh
  generalize hgtB re im = C at hh hrh
  have b0 : Hid (Below w.heap.size w (w.alloc (.cells #[.float .f64 re, .float .f64 im] 48))) := allocB w _
  have hg : (w.alloc (.cells #[.float .f64 re, .float .f64 im] 48)).heap[w.heap.size]? = some (.cells #[.float .f64 re, .float .f64 im] 48 (0, 0)) := World.alloc_heap_new w _
  have x0 : (w.alloc (.cells #[.float .f64 re, .float .f64 im] 48)).cell? ⟨w.heap.size, 0, none⟩ = some (.float .f64 re) := by rw [cell_at hg]; rfl
  have x1 : (w.alloc (.cells #[.float .f64 re, .float .f64 im] 48)).cell? ⟨w.heap.size, 1, none⟩ = some (.float .f64 im) := by rw [cell_at hg]; rfl
  have e5 : (FloatKind.f64.format.order 0 0 == some .eq) = true := by decide
  clear hg
  cases c1 : inN h with
  | false =>
    have E : ntV h k = .complex .f64 0 0 ∧ ntE h k = 1 := by unfold ntV ntE; rw [c1]; exact ⟨rfl, rfl⟩
    rw [E.1, E.2] at hnt
    rw [c1] at hn1
    clear c1 E hn2 hm
    go_enter Tryz.func4, Tryz.ntmps4
    go_wp2_with fail
    go_quiet (fail)
    go_wp2_with fail
    refine (hh _).mono ?_
    clear hh
    rintro e w1 ⟨rfl, n, hw1⟩
    subst hw1
    go_wp2_with fail
    refine (hrh _).mono ?_
    clear hrh
    rintro e w1 ⟨rfl, hw1⟩
    subst hw1
    go_wp2_with fail
    refine (hnt _).mono ?_
    clear hnt
    rintro e w1 ⟨rfl, hw1⟩
    subst hw1
    go_wp2_with fail
    refine (hn1 _).mono ?_
    clear hn1
    rintro e w1 ⟨rfl, hw1⟩
    subst hw1
    go_wp2_with fail
    refine (hal _).mono ?_
    clear hal
    rintro e w1 ⟨rfl, hb⟩
    have HB : Hid (Below w.heap.size w w1) := Below.trans (below_drewN (unhide b0) _) (hb.mono (show w.heap.size ≤ _ by simp))
    clear hb b0
    go_wp2_with fail
    go_ret
    exact ⟨rfl, unhide HB⟩
  | true =>
    cases c2 : inN k with
    | false =>
      have E : ntV h k = .complex .f64 0 0 ∧ ntE h k = 1 := by unfold ntV ntE; rw [c2, Bool.and_false]; exact ⟨rfl, rfl⟩
      rw [E.1, E.2] at hnt
      rw [c1] at hn1
      rw [c2] at hn2
      clear c1 c2 E hm
      go_enter Tryz.func4, Tryz.ntmps4
      go_wp2_with fail
      go_quiet (fail)
      go_wp2_with fail
      refine (hh _).mono ?_
      clear hh
      rintro e w1 ⟨rfl, n, hw1⟩
      subst hw1
      go_wp2_with fail
      refine (hrh _).mono ?_
      clear hrh
      rintro e w1 ⟨rfl, hw1⟩
      subst hw1
      go_wp2_with fail
      refine (hnt _).mono ?_
      clear hnt
      rintro e w1 ⟨rfl, hw1⟩
      subst hw1
      go_wp2_with fail
      refine (hn1 _).mono ?_
      clear hn1
      rintro e w1 ⟨rfl, hw1⟩
      subst hw1
      go_wp2_with fail
      refine (hn2 _).mono ?_
      clear hn2
      rintro e w1 ⟨rfl, hw1⟩
      subst hw1
      go_wp2_with fail
      refine (hal _).mono ?_
      clear hal
      rintro e w1 ⟨rfl, hb⟩
      have HB : Hid (Below w.heap.size w w1) := Below.trans (below_drewN (unhide b0) _) (hb.mono (show w.heap.size ≤ _ by simp))
      clear hb b0
      go_wp2_with fail
      go_ret
      exact ⟨rfl, unhide HB⟩
    | true =>
      have E : ntV h k = noteV h k ∧ ntE h k = 0 := by unfold ntV ntE; rw [c1, c2]; exact ⟨rfl, rfl⟩
      rw [E.1, E.2] at hnt
      have hm := hm c1 c2
      rw [c1] at hn1
      rw [c2] at hn2
      clear c1 c2 E
      go_enter Tryz.func4, Tryz.ntmps4
      go_wp2_with fail
      go_quiet (fail)
      go_wp2_with fail
      refine (hh _).mono ?_
      clear hh
      rintro e w1 ⟨rfl, n, hw1⟩
      subst hw1
      go_wp2_with fail
      refine (hrh _).mono ?_
      clear hrh
      rintro e w1 ⟨rfl, hw1⟩
      subst hw1
      go_wp2_with fail
      refine (hnt _).mono ?_
      clear hnt
      rintro e w1 ⟨rfl, hw1⟩
      subst hw1
      go_wp2_with fail
      refine (hn1 _).mono ?_
      clear hn1
      rintro e w1 ⟨rfl, hw1⟩
      subst hw1
      go_wp2_with fail
      refine (hn2 _).mono ?_
      clear hn2
      rintro e w1 ⟨rfl, hw1⟩
      subst hw1
      go_wp2_with fail
      refine (hal _).mono ?_
      clear hal
      rintro e w1 ⟨rfl, hb⟩
      have HB : Hid (Below w.heap.size w w1) := Below.trans (below_drewN (unhide b0) _) (hb.mono (show w.heap.size ≤ _ by simp))
      clear hb b0
      go_wp2_with fail
      refine (hm _).mono ?_
      clear hm
      rintro e w2 ⟨rfl, n2, hw2⟩
      subst hw2
      go_wp2_with fail
      go_ret
      exact ⟨rfl, below_drewN (unhide HB) _⟩
end Go.Proofs.YthcljhfankooaaaGreat

namespace Go.Proofs.YthcljhfankooaaaGreat
open Go.ChangeShapes Go.WideShapes Go.ChangeAt Go.RowKit

set_option maxRecDepth 100000 in
theorem relNotes_lifted (os : Os) (started : os.Started) (H : Type) (enc : TypeId × Value → H) :
    ReturnsInHanded {} Tryz.checked os 4 .any (Rows.relNotesSpec.pre6 enc Tryz.prog Tryz.f4 Rows.relNotesRow.domain false) (Rows.relNotesSpec.post enc Tryz.prog Tryz.f4 false true false false) := by
  refine returnsInHanded_of_change_sized (C := Tryz.checked) own started (by kernel_rfl) Tryz.func4
    (ChangeSpec.witness6 (enc := enc) (C := Tryz.checked) false ⟨#[], #[.agg #[.float .f64 0, .float .f64 0], .int .i64 0, .int .i64 0], []⟩ 8 (by kernel_rfl) (by kernel_rfl) (by kernel_rfl) (by kernel_rfl)) ?_
  intro W base args ds gs before hval0 hW _ hsz0 _
  clear hsz0
  have hval : ∀ (j : Nat) t v, Tryz.f4.params[j]? = some t → args[j]? = some v → Value.okWide Tryz.prog W .any base t v := hval0
  have hW' := hW
  obtain ⟨p, q, hA0, hV, rfl, _, _⟩ := hW
  have hA : DataW.TrodAll enc Tryz.prog W 0 (fun _ => true) true Tryz.f4.params.toList args.toList ds p := hA0
  rw [Tryz.params4] at hA hval
  obtain ⟨v0, v1, v2, d0, d1, d2, p0, p1, p2, rfl, rfl, rfl, h0, h1, h2⟩ := trodAll_three hA
  obtain ⟨rfl, rfl⟩ := trodVars_none hV
  obtain ⟨n1, rfl, rfl, rfl, wf1⟩ := open_int Tryz.underlying3 (hval 1 3 v1 rfl rfl) h1
  obtain ⟨n2, rfl, rfl, rfl, wf2⟩ := open_int Tryz.underlying3 (hval 2 3 v2 rfl rfl) h2
  clear hA0 hval0
  simp only [List.append_nil] at hW'
  have lt0 : ∀ x ∈ p0, x.block < W.heap.size := fun x hx => hW'.lt x (by simp [hx])
  obtain ⟨a, b, ev0, wa, wb⟩ := floats_of (hval 0 48 v0 rfl rfl) h0
  subst ev0
  refine (notes_walk W a b (w64_of wa) (w64_of wb) n1 n2).mono fun e W' ⟨he, hg⟩ => ?_
  subst he
  refine ⟨_, rfl, _, _, _, [], p0, [], hW', ?_, ?_, rfl, hg.frame _, fun h => by cases h⟩
  · exact trodAll_mk1 (shut_bool Tryz.underlying4 _)
  · have := trodAll_mk3 (Below.trod laidOut (by kernel_rfl) (of_decide_eq_true (by kernel_rfl)) h0 hg lt0) (shut_int Tryz.underlying3 wf1) (shut_int Tryz.underlying3 wf2)
    simp only [List.append_nil] at this
    exact this

theorem relNotes_holds : Rows.RelNotesSaid :=
  OpenClaim.holds_of_wide 4 Tryz.f4 rfl rfl rfl rfl rfl rfl rfl ⟨rfl, rfl, rfl, rfl, rfl⟩ rfl rfl rfl rfl rfl (by kernel_rfl) Tryz.func4 (by kernel_rfl)
    (of_decide_eq_true (by kernel_rfl)) (by unfold Func.isWrapper; first | (rw [if_pos (by decide +kernel)]; kernel_rfl) | (rw [if_neg (by decide +kernel)]; exact ⟨rfl, rfl⟩))
    (fun os started H enc _ => relNotes_lifted os started H enc)
#print axioms relNotes_holds
end Go.Proofs.YthcljhfankooaaaGreat
