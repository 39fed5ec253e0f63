/- The statement on BtreePlays: two sets answer every call, in every order, as the document says, and have the document's tuples in the end. No condition. -/
import Derived.Test.YtmjlhmhkbfnccaaPQE
import Derived.Test.YtmjlhmhkbfnccaaPlaysB
import Derived.Test.YtmjlhmhkbfnccaaPlaysF
import Derived.Test.YtmjlhmhkbfnccaaPlaysD
namespace Go.Proofs.Ytmjlhmhkbfnccaa
open Go.ChangeShapes Go.WideShapes Go.ChangeAt Go.RowKit

theorem does_ok (W : World) : DoesOk W := fun S w tb s h s' h' cs o o' A A' kind on k tv x hP hx hB hn => by
  rcases and_one on with hon | hon
  · exact does_0 S W w tb s h s' h' cs o o' A A' kind on k tv x hP hx hB hn hon
  · refine (does_1 S W w tb s' h' s h cs o' o A' A kind on k tv x hP.symm hx hB hn hon).mono ?_
    rintro e w' ⟨rfl, cs', o2, o2', A2, A2', hP'⟩
    exact ⟨rfl, cs', o2', o2, A2', A2, hP'.symm⟩
theorem stands_ok (W : World) : StandsOk W := fun S w tb s h s' h' cs o o' A A' hP => stands_any S W w tb s h s' h' cs o o' A A' hP

set_option maxRecDepth 100000 in
theorem btreePlays_lifted (os : Os) (started : os.Started) (H : Type) (enc : TypeId × Value → H) :
    ReturnsInHanded {} Try.checked os 3 .any (Rows.btreePlaysSpec.pre6 enc Try.prog Try.f3 Rows.btreePlaysRow.domain false) (Rows.btreePlaysSpec.post enc Try.prog Try.f3 false true false false) := by
  refine returnsInHanded_of_change_sized (C := Try.checked) own started (by kernel_rfl) Try.func3
    (ChangeSpec.witness6 (enc := enc) (C := Try.checked) false ⟨#[], #[.slice none 0 0, .slice none 0 0, .slice none 0 0], []⟩ 8 (by kernel_rfl) (by kernel_rfl) (by kernel_rfl) (by kernel_rfl)) ?_
  intro W base args ds gs before hval0 hW _ hsz0 _
  have hsz : (DataW.weightsEach Try.prog (Try.f3.params.toList ++ Rows.btreePlaysSpec.plain.varTypes Try.prog) (ds ++ gs)).all (· ≤ reachBytes) = true := hsz0
  clear hsz0
  have hval : ∀ (j : Nat) t v, Try.f3.params[j]? = some t → args[j]? = some v → Value.okWide Try.prog W .any base t v := hval0
  have hW' := hW
  obtain ⟨p, q, hA0, hV, rfl, _, _⟩ := hW
  have hA : DataW.TrodAll enc Try.prog W 0 (fun _ => true) true Try.f3.params.toList args.toList ds p := hA0
  rw [Try.params3] at hA hval hsz
  obtain ⟨v0, v1, v2, d0, d1, d2, p0, p1, p2, rfl, rfl, rfl, h0, h1, h2⟩ := trodAll_three hA
  obtain ⟨rfl, rfl⟩ := trodVars_none hV
  obtain ⟨a0, len0, cap0, rfl⟩ := okWide_slice Try.underlying22 (hval 0 22 v0 rfl rfl)
  obtain ⟨a1, len1, cap1, rfl⟩ := okWide_slice Try.underlying22 (hval 1 22 v1 rfl rfl)
  obtain ⟨a2, len2, cap2, rfl⟩ := okWide_slice Try.underlying23 (hval 2 23 v2 rfl rfl)
  clear hA0 hval0
  simp only [List.append_nil] at hW'
  have lt0 : ∀ x ∈ p0, x.block < W.heap.size := fun x hx => hW'.lt x (by simp [hx])
  have lt1 : ∀ x ∈ p1, x.block < W.heap.size := fun x hx => hW'.lt x (by simp [hx])
  have lt2 : ∀ x ∈ p2, x.block < W.heap.size := fun x hx => hW'.lt x (by simp [hx])
  obtain ⟨l0, hl0, hB0, hz0⟩ := slice_of h0 rfl lt0
  obtain ⟨l1, hl1, hB1, hz1⟩ := slice_of h1 rfl lt1
  have hw2 : ∀ n ∈ d2.weights Try.prog 23, n ≤ reachBytes := fun n hn => by
    have := List.all_eq_true.1 hsz n (DataW.weights_mem_each (j := 2) rfl rfl n hn)
    simpa using this
  obtain ⟨b2, n2, c2, f2, e2, hc1, hc2, hAct⟩ := acts_of h2 rfl lt2 hw2
  rw [e2]
  clear hz0 hz1
  refine (plays_walk W _ _ l0 l1 b2 n2 c2 f2 hl0.ints hl1.ints hc1 hc2 hAct (does_ok W) (stands_ok W)).mono fun e W' ⟨he, hg⟩ => ?_
  subst he
  rw [← e2]
  refine ⟨_, rfl, _, _, _, [], p0 ++ (p1 ++ p2), [], hW', ?_, ?_, rfl, hg.frame _, fun h => by cases h⟩
  · exact trodAll_mk1 (shut_bool Try.underlying4 _)
  · have := trodAll_mk3 (Below.trod laidOut (by kernel_rfl) (of_decide_eq_true (by kernel_rfl)) h0 hg lt0) (Below.trod laidOut (by kernel_rfl) (of_decide_eq_true (by kernel_rfl)) h1 hg lt1) (Below.trod laidOut (by kernel_rfl) (of_decide_eq_true (by kernel_rfl)) h2 hg lt2)
    exact this

theorem btreePlays_holds : Rows.BtreePlaysSaid :=
  OpenClaim.holds_of_wide 3 Try.f3 rfl rfl rfl rfl rfl rfl rfl ⟨rfl, rfl, rfl, rfl, rfl⟩ rfl rfl rfl rfl rfl (by kernel_rfl) Try.func3 (by kernel_rfl)
    (of_decide_eq_true (by kernel_rfl)) (by unfold Func.isWrapper; first | (rw [if_pos (by decide +kernel)]; kernel_rfl) | (rw [if_neg (by decide +kernel)]; exact ⟨rfl, rfl⟩))
    (fun os started H enc _ => btreePlays_lifted os started H enc)
#print axioms btreePlays_holds
end Go.Proofs.Ytmjlhmhkbfnccaa
