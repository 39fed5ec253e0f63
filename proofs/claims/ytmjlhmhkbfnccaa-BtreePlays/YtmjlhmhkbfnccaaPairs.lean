/- Whether two sets can be put together. -/
import Derived.Test.YtmjlhmhkbfnccaaTups
import Derived.Deep.RegionWith
namespace Go.Proofs.Ytmjlhmhkbfnccaa
open Go.RowKit Go.Shelf

/-- What is told. -/
def pairE (o1 o2 : List Int) : Int := if fitB o1 o2 = true then 0 else 14

set_option maxRecDepth 100000 in
set_option maxHeartbeats 4000000 in
theorem pair_T (S : Nat → Prop) (w : World) (s1 h1 s2 h2 : Nat) (o1 o2 : List Int) (xs ys : List (List Int)) (ha : SetT S w s1 h1 o1 xs) (hb : SetT S w s2 h2 o2 ys) :
    Calls Try.prog 50 #[.pointer (some ⟨s1, 0, none⟩), .pointer (some ⟨s2, 0, none⟩)] w fun e w' => e = .returned (.int .i64 (pairE o1 o2)) ∧ Below w.heap.size w w' := by
  obtain ⟨l1, ha, _, _⟩ := ha
  obtain ⟨l2, hb, _, _⟩ := hb
  obtain ⟨ov1, p1, d1, hh1, hov1, _⟩ := ha.held
  obtain ⟨ov2, p2, d2, hh2, hov2, _⟩ := hb.held
  obtain ⟨oa1, oc1, rfl, _⟩ := id hov1
  obtain ⟨oa2, oc2, rfl, _⟩ := id hov2
  obtain ⟨c0, c1, c2, _⟩ := three_cells hh1
  obtain ⟨e0, e1, e2, _⟩ := three_cells hh2
  have t0 := ha.s0
  have u0 := hb.s0
  have hm1 := made_any w s1 h1 ha.s0
  have hm2 := made_any w s2 h2 hb.s0
  have hfit : Calls Try.prog 38 #[.agg #[.slice oa1 o1.length oc1, .pointer p1, .int .i64 (l1.length : Int)], .slice oa2 o2.length oc2] w.drew fun e w' => e = .returned (.bool (fitB o1 o2)) ∧ Below w.heap.size w w' :=
    (hfits_any w.drew oa1 oa2 o1 o2 oc1 oc2 p1 l1.length).mono fun _ _ ⟨q1, q2⟩ => ⟨q1, ((Below.refl _ w).drew).trans q2⟩
  have mixed : Try.prog.follows .mixedOrders = true := by kernel_rfl
  clear ha hb hh1 hh2 hov1 hov2
  go_enter Try.func50, Try.ntmps50
  go_wp2_with fail
  refine hm1.mono ?_
  clear hm1
  rintro e w' ⟨rfl, hw'⟩
  subst hw'
  go_wp2_with fail
  refine hm2.mono ?_
  clear hm2
  rintro e w'' ⟨rfl, hw''⟩
  subst hw''
  cases hf : fitB o1 o2 with
  | true =>
    rw [hf] at hfit
    have HF := hide hf
    clear hf
    go_wp2_with fail
    go_region_with (go_at_call 38; refine hfit.mono ?_; clear hfit; rintro e w4 ⟨rfl, hb4⟩; have HB4 := hide hb4; clear hb4)
    all_goals
      go_wp2_with fail
      go_ret
      exact ⟨ret_int (by simp [pairE, unhide HF]), unhide HB4⟩
  | false =>
    rw [hf] at hfit
    have HF := hide hf
    clear hf
    go_wp2_with fail
    go_region_with (go_at_call 38; refine hfit.mono ?_; clear hfit; rintro e w4 ⟨rfl, hb4⟩; have HB4 := hide hb4; clear hb4)
    all_goals
      go_wp2_with fail
      go_ret
      exact ⟨ret_int (by simp [pairE, unhide HF]), unhide HB4⟩
end Go.Proofs.Ytmjlhmhkbfnccaa
