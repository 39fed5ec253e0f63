/- The walk of SymPlays. -/
import Derived.Test.YtomlednmikgkcaaStands
namespace Go.Proofs.Ytomlednmikgkcaa
open Go.RowKit Go.Maps

/-- Between two rounds. -/
def PRel (W : World) (tb hb mb rb : Nat) (l : List ByteArray) (M : Nat) (i : Value) (wr : World) : Prop :=
  ∃ k : Nat, k ≤ M ∧ i = .int .i64 (k : Int) ∧ Both wr W.heap.size tb hb mb rb (puts (l.take k)) (puts (l.take k)) ∧ Below W.heap.size W wr

theorem puts_sizes {l : List ByteArray} {N : Nat} (h : ∀ x ∈ l, x.size ≤ N) (k : Nat) : ∀ j : Nat, ((puts (l.take k))[j]?.getD noText).size ≤ N :=
  sizes_of (fun x hx => h x (List.mem_of_mem_take (puts_mem hx)))

set_option maxRecDepth 100000 in
set_option maxHeartbeats 4000000 in
theorem symPlays_walk (W : World) (v : Value) (l : List ByteArray) (hA : Arg W v 281474976710656 l) (q : Int) :
    Calls Try.prog 3 #[v, .int .i64 q] W fun e w' => e = .returned (.bool true) ∧ Below W.heap.size W w' := by
  obtain ⟨M, hM, hM1, hM2⟩ : ∃ M : Nat, min (l.length : Int) 2000 = (M : Int) ∧ M ≤ l.length ∧ M ≤ 2000 := ⟨min l.length 2000, by omega, by omega, by omega⟩
  rcases hA with ⟨rfl, rfl⟩ | ⟨ad, cap, rfl, hc1, hc2, hcell⟩
  · obtain rfl : M = 0 := by simpa using hM1
    clear hM hM1 hM2
    go_enter Try.func3, Try.ntmps3
    go_wp2_with fail
    refine (new_any W).mono ?_
    rintro e w0 ⟨rfl, h0, b0⟩
    have hO : Only w0 W.heap.size _ _ _ [] := ⟨none, 0, h0⟩
    clear h0
    go_wp2_with fail
    refine (alive_any _).mono ?_
    rintro e w1 ⟨rfl, b1⟩
    have hB := (both_new hO).later b1
    have bB : Below W.heap.size W w1 := b0.trans (((below_new w0).mono b0.size).trans (b1.mono (Nat.le_trans b0.size (below_new w0).size)))
    clear b0 b1 hO
    go_wp2_with fail
    refine wp_loop_rounds 1 ?_
    rw [rounds_succ]
    go_wp2_with fail
    refine (text_only hB.only q).mono ?_
    rintro e w' ⟨rfl, rfl⟩
    go_wp2_with fail
    refine (rtext_both hB q).mono ?_
    rintro e w' ⟨rfl, rfl⟩
    have hst := stands_any (N := 0) hB (by intro j; exact Nat.le_refl _)
    generalize textAt [] q = tx1
    generalize isNum [] q = b1
    go_wp2_with fail
    refine hst.mono ?_
    rintro e w2 ⟨rfl, b2⟩
    go_wp2_with fail
    go_ret
    exact ⟨rfl, bB.trans (b2.mono bB.size)⟩
  · have hsz : ∀ x ∈ l, x.size ≤ 281474976710656 := fun x hx => by
      obtain ⟨j, hj⟩ := List.getElem?_of_mem hx
      exact (hcell j x hj).2.2
    go_enter Try.func3, Try.ntmps3
    go_wp2_with fail
    refine (new_any W).mono ?_
    rintro e w0 ⟨rfl, h0, b0⟩
    have hO : Only w0 W.heap.size _ _ _ [] := ⟨none, 0, h0⟩
    clear h0
    go_wp2_with fail
    refine (alive_any _).mono ?_
    rintro e w1 ⟨rfl, b1⟩
    have hB := (both_new hO).later b1
    have bB : Below W.heap.size W w1 := b0.trans (((below_new w0).mono b0.size).trans (b1.mono (Nat.le_trans b0.size (below_new w0).size)))
    clear b0 b1 hO
    go_wp2_with fail
    go_loopw [36] (fun i wr => PRel W (W.heap.size + 1 + 1) (W.heap.size + 1) W.heap.size w0.heap.size l M i wr) (fun i _ => M - (intOf i).toNat)
    case atStart => exact ⟨0, Nat.zero_le _, rfl, by simpa [puts] using hB, bB⟩
    case round =>
      obtain ⟨k, hk, rfl, hB1, bB1⟩ := hrel
      clear hB bB
      by_cases hlt : k < M
      · obtain ⟨b, off, rfl, hc, hs⟩ := arg_cell hcell bB1 (show k < l.length by omega)
        have hp := puts_take (l := l) (show k < l.length by omega)
        have hi : (k : Int) < (M : Int) := by omega
        have HP : Hid _ := hp
        clear hp
        generalize l[k] = s at hc hs HP
        generalize hz : puts (l.take k) = zs at hB1 HP
        clear hz
        go_wp2_with fail
        refine (get_only hB1.only s hs).mono ?_
        rintro e w' ⟨rfl, rfl⟩
        go_wp2_with fail
        refine (rget_both hB1 s).mono ?_
        rintro e w' ⟨rfl, rfl⟩
        go_wp2_with fail
        refine (put_both hB1 s hs).mono ?_
        rintro e w2 ⟨rfl, hB2, b2⟩
        go_wp2_with fail
        refine (rput_both hB2 s).mono ?_
        rintro e w3 ⟨rfl, hB3, b3⟩
        generalize there zs s = bb
        generalize num zs s = nn
        generalize ansN zs s = na
        generalize ansE zs s = ea
        go_wp2_with fail
        go_roundw
        case rel => exact ⟨k + 1, by omega, by go_num, by rw [HP.out]; exact hB3, (bB1.trans b2).trans b3⟩
        case measure => simp [intOf]; omega
      · obtain rfl : k = M := by omega
        have hle : ¬ (k : Int) < (k : Int) := by omega
        have hst := fun wq (h : Both wq W.heap.size (W.heap.size + 1 + 1) (W.heap.size + 1) W.heap.size w0.heap.size (puts (l.take k)) (puts (l.take k))) => stands_any (N := 281474976710656) h (puts_sizes hsz k)
        have hst1 := hst _ hB1
        clear hst
        generalize puts (l.take k) = zs at hB1 hst1
        go_wp2_with fail
        refine (text_only hB1.only q).mono ?_
        rintro e w' ⟨rfl, rfl⟩
        go_wp2_with fail
        refine (rtext_both hB1 q).mono ?_
        rintro e w' ⟨rfl, rfl⟩
        generalize textAt zs q = tx1
        generalize isNum zs q = b1
        go_wp2_with fail
        refine hst1.mono ?_
        rintro e w2 ⟨rfl, b2⟩
        go_wp2_with fail
        go_ret
        exact ⟨rfl, bB1.trans (b2.mono bB1.size)⟩
end Go.Proofs.Ytomlednmikgkcaa
