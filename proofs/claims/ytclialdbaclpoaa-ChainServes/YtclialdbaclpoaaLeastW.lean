/- The walk of ChainLeast. -/
import Derived.Test.YtclialdbaclpoaaRefL
import Derived.Test.YtclialdbaclpoaaMoreW
namespace Go.Proofs.Ytclialdbaclpoaa
open Go.RowKit Go.Shelf Go.Maps

set_option maxRecDepth 100000 in
set_option maxHeartbeats 4000000 in
theorem least_walk (w : World) (v : Value) (l : List Int) (h : Ints w.heap.size w v l) :
    Calls Try.prog 3 #[v] w fun e w' => e = .returned (.bool true) ∧ Below w.heap.size w w' := by
  have hle := least_any w v l h
  obtain ⟨va, vc, ev, _⟩ := id h
  have HI := hide h
  clear h
  go_enter Try.func3, Try.ntmps3
  subst ev
  go_wp2_with fail
  refine hle.mono ?_
  clear hle
  rintro e w1 ⟨n, rfl, hn1, hn0, b1⟩
  have hrl := rleast_any w1 _ l (((unhide HI).below b1 (Nat.le_refl _)).mono b1.size)
  have HE := hide (And.intro hn1 (And.intro hn0 b1))
  clear hn1 hn0 b1
  generalize lookE 8 l = L at hrl HE
  go_wp2_with fail
  refine hrl.mono ?_
  clear hrl
  rintro e w2 ⟨m, rfl, hm1, hm0, b2⟩
  obtain ⟨hn1, hn0, b1⟩ := unhide HE
  have hmn : m = (n : Int) := by
    by_cases g : L = 0
    · exact (hm1 g n (hn1 g)).symm
    · rw [hm0 g, hn0 g]; rfl
  subst hmn
  have b02 := b1.trans (b2.mono b1.size)
  have hal := alive_any w2
  have HB := hide b02
  clear hn1 hn0 b1 hm1 hm0 b2 b02 HE
  go_wp2_with fail
  refine hal.mono ?_
  clear hal
  rintro e w5 ⟨rfl, b5⟩
  have HB5 := hide b5
  clear b5
  go_wp2_with fail
  go_ret
  exact ⟨rfl, (unhide HB).trans ((unhide HB5).mono (unhide HB).size)⟩
end Go.Proofs.Ytclialdbaclpoaa
