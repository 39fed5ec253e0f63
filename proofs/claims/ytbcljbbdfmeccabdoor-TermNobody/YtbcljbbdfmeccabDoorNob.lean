/- A store that nobody made: made, Put, Get, Back, Len. -/
import Derived.Test.YtbcljbbdfmeccabDoorAliveW
import Derived.Test.YtbcljbbdfmeccabDoorRaw
namespace Go.Proofs.YtbcljbbdfmeccabDoor
open Go.RowKit

/-- No store, or one with nothing in it. -/
def Nob (W : World) (s : Value) : Prop := s = .pointer none ∨ ∃ b, s = .pointer (some ⟨b, 0, none⟩) ∧ W.cell? ⟨b, 0, none⟩ = some (.pointer none) ∧ b < W.heap.size
theorem Nob.below {W W' : World} {s : Value} (h : Nob W s) (b : Below W.heap.size W W') : Nob W' s := by
  rcases h with h | ⟨g, h1, h2, h3⟩
  · exact .inl h
  · refine .inr ⟨g, h1, ?_, Nat.lt_of_lt_of_le h3 b.size⟩
    have : W'.cell? ⟨g, 0, none⟩ = W.cell? ⟨g, 0, none⟩ := by simp only [World.cell?]; rw [b.block g h3]
    exact this.trans h2

theorem nob_made (W : World) (s : Value) (h : Nob W s) : Calls Tryd.prog 23 #[s] W fun e w' => e = .returned (.bool false) ∧ w' = W := by
  rcases h with rfl | ⟨g, rfl, h2, _⟩
  · go_enter Tryd.func23, Tryd.ntmps23
    go_wp2_with fail
    go_ret
    exact ⟨rfl, rfl⟩
  · go_enter Tryd.func23, Tryd.ntmps23
    go_wp2_with fail
    go_ret
    exact ⟨rfl, rfl⟩

theorem nob_len (W : World) (s : Value) (h : Nob W s) : Calls Tryd.prog 12 #[s] W fun e w' => e = .returned (.int .i64 0) ∧ w' = W := by
  go_enter Tryd.func12, Tryd.ntmps12
  go_wp2_with (go_at_call 23; refine (nob_made _ s h).mono ?_; rintro e w' ⟨rfl, rfl⟩)
  go_ret
  exact ⟨rfl, rfl⟩

set_option maxHeartbeats 4000000 in
theorem nob_put (v : V) (W : World) (s : Value) (h : Nob W s) : Calls Tryd.prog 9 #[s, v.val] W fun e w' => e = .returned (.tuple #[.int .i64 0, .int .i64 5]) ∧ Below W.heap.size W w' := by
  have b1 := below_box W v.obj
  have H := hide (h.below b1)
  clear h
  go_enter Tryd.func9, Tryd.ntmps9
  go_wp2_with fail
  refine (nob_made _ s (unhide H)).mono ?_
  rintro e w' ⟨rfl, rfl⟩
  go_wp2_with fail
  go_ret2
  exact ⟨rfl, b1⟩

set_option maxHeartbeats 4000000 in
theorem nob_get (v : V) (W : World) (s : Value) (h : Nob W s) : Calls Tryd.prog 16 #[s, v.val] W fun e w' => e = .returned (.tuple #[.int .i64 0, .bool false]) ∧ Below W.heap.size W w' := by
  have b1 := below_box W v.obj
  have H := hide (h.below b1)
  clear h
  go_enter Tryd.func16, Tryd.ntmps16
  go_wp2_with fail
  refine (nob_made _ s (unhide H)).mono ?_
  rintro e w' ⟨rfl, rfl⟩
  go_wp2_with fail
  go_ret2
  exact ⟨rfl, b1⟩

set_option maxHeartbeats 4000000 in
theorem nob_back (k n : Int) (W : World) (s : Value) (h : Nob W s) : Calls Tryd.prog 13 #[s, .int .i64 k, .int .i64 n] W fun e w' => e = .returned (.tuple #[V.none.val, .bool false]) ∧ Below W.heap.size W w' := by
  have b1 := below_box W V.none.obj
  have H := hide (h.below b1)
  clear h
  go_enter Tryd.func13, Tryd.ntmps13
  go_wp2_with fail
  refine (nob_made _ s (unhide H)).mono ?_
  rintro e w' ⟨rfl, rfl⟩
  go_wp2_with fail
  refine bodyPost_ret (v := .tuple #[V.none.val, .bool false]) (by simp [results, Tryd.results13, go_sem, V.val, V.kind, V.num, V.str, V.addr, V.len, V.cap]) rfl ?_
  exact ⟨rfl, b1⟩

theorem none_at (B : Nat) (w : World) : V.none.At B w := by
  simp [V.At]
end Go.Proofs.YtbcljbbdfmeccabDoor
