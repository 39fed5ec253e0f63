/- The walk of TupleCovers. -/
import Derived.Test.YtklmhgljhmodlaaAlive
namespace Go.Proofs.Ytklmhgljhmodlaa
open Go.RowKit

set_option maxRecDepth 100000 in
set_option maxHeartbeats 4000000 in
theorem covers_walk (W : World) (v0 v2 : Value) (o l : List Int) (c : Int) (h0 : Ints W.heap.size W v0 o) (h2 : Ints W.heap.size W v2 l) :
    Calls Try.prog 4 #[v0, .int .i64 c, v2] W fun e w' => e = .returned (.bool true) ∧ Below W.heap.size W w' := by
  have H0 := hide h0
  have H2 := hide h2
  obtain ⟨a, cap, rfl, hc1, hc2, _⟩ := h0
  obtain ⟨a2, cap2, rfl, hd1, hd2, _⟩ := h2
  go_enter Try.func4, Try.ntmps4
  go_wp2_with fail
  refine (cover_any _ W _ o c (unhide H0)).mono ?_
  rintro e w' ⟨rfl, rfl⟩
  go_wp2_with fail
  refine (rcover_any _ w' _ o c (unhide H0)).mono ?_
  rintro e w' ⟨rfl, rfl⟩
  generalize coverN o c = p
  generalize coverB o c = q
  go_wp2_with fail
  refine (cols_any _ w' _ l (unhide H2)).mono ?_
  rintro e w' ⟨rfl, rfl⟩
  go_wp2_with fail
  refine (rcols_any _ w' _ l (unhide H2)).mono ?_
  rintro e w' ⟨rfl, rfl⟩
  generalize colsN l = r
  generalize colsE l = s
  cases q
  all_goals
    go_wp2_with fail
    refine (alive_any w').mono ?_
    rintro e w2 ⟨rfl, b2⟩
    go_wp2_with fail
    go_ret
    exact ⟨rfl, b2⟩
end Go.Proofs.Ytklmhgljhmodlaa
