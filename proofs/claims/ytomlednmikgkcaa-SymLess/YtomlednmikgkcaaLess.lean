/- The walk of SymLess. -/
import Derived.Test.YtomlednmikgkcaaBoth
namespace Go.Proofs.Ytomlednmikgkcaa
open Go.RowKit Go.Maps

theorem less_asymm : ∀ (x y : List UInt8), Op.bytesLess x y = true → Op.bytesLess y x = false
  | [], [], h => by simp [Op.bytesLess] at h
  | _ :: _, [], h => by simp [Op.bytesLess] at h
  | [], _ :: _, _ => by simp [Op.bytesLess]
  | a :: x, b :: y, h => by
    have ih := less_asymm x y
    simp [Op.bytesLess] at h ⊢
    rcases h with h | ⟨rfl, h⟩
    · exact ⟨UInt8.le_of_lt h, fun e => absurd h (by rw [e]; exact UInt8.lt_irrefl _)⟩
    · exact ⟨UInt8.le_refl _, fun _ => ih h⟩
theorem ahead_asymm (xs : List ByteArray) (m n : Int) (h : ahead xs m n = true) : ahead xs n m = false := by
  unfold ahead at h ⊢
  simp only [Bool.and_eq_true] at h
  rw [less_asymm _ _ h.2]
  simp
theorem ahead_irrefl (xs : List ByteArray) (m : Int) : ahead xs m m = false := by
  cases e : ahead xs m m with
  | false => rfl
  | true => exact e.symm.trans (ahead_asymm xs m m e)

/-- Between two rounds. -/
def LRel (W : World) (tb hb mb rb : Nat) (l : List ByteArray) (M : Nat) (i : Value) (wr : World) : Prop :=
  ∃ k : Nat, k ≤ M ∧ i = .int .i64 (k : Int) ∧ Both wr W.heap.size tb hb mb rb (puts (l.take k)) (puts (l.take k)) ∧ Below W.heap.size W wr

theorem min_nat (a c : Nat) : ∃ M : Nat, min (a : Int) (c : Int) = (M : Int) ∧ M ≤ a ∧ M ≤ c := ⟨min a c, by omega, by omega, by omega⟩

set_option maxRecDepth 100000 in
set_option maxHeartbeats 4000000 in
theorem symLess_walk (W : World) (v : Value) (l : List ByteArray) (hA : Arg W v 281474976710656 l) (m n : Int) :
    Calls Try.prog 4 #[v, .int .i64 m, .int .i64 n] W fun e w' => e = .returned (.bool true) ∧ Below W.heap.size W w' := by
  obtain ⟨M, hM, hM1, hM2⟩ : ∃ M : Nat, min (l.length : Int) 2000 = (M : Int) ∧ M ≤ l.length ∧ M ≤ 2000 := min_nat l.length 2000
  rcases hA with ⟨rfl, rfl⟩ | ⟨ad, cap, rfl, hc1, hc2, hcell⟩
  · obtain rfl : M = 0 := by simpa using hM1
    clear hM hM1 hM2
    go_enter Try.func4, Try.ntmps4
    go_wp2_with fail
    refine (new_any W).mono ?_
    rintro e w0 ⟨rfl, h0, b0⟩
    have hO : Only w0 W.heap.size _ _ _ [] := ⟨none, 0, h0⟩
    clear h0
    go_wp2_with fail
    refine (alive_any _).mono ?_
    rintro e w1 ⟨rfl, b1⟩
    have hB := (both_new hO).later b1
    have bB : Below W.heap.size W w1 := b0.trans (((below_new w0).mono b0.size).trans (b1.mono (Nat.le_trans b0.size (below_new w0).size)))
    clear b0 b1 hO
    go_wp2_with fail
    refine wp_loop_rounds 1 ?_
    rw [rounds_succ]
    go_wp2_with fail
    refine (less_only hB.only m n).mono ?_
    rintro e w' ⟨rfl, rfl⟩
    go_wp2_with fail
    refine (rless_both hB m n).mono ?_
    rintro e w' ⟨rfl, rfl⟩
    have e1 : ∀ a b : Int, ahead [] a b = false := fun a b => by simp [ahead, isNum]; omega
    rw [e1]
    go_wp2_with fail
    refine (less_only hB.only m n).mono ?_
    rw [e1]
    rintro e w' ⟨rfl, rfl⟩
    go_wp2_with fail
    refine (less_only hB.only m m).mono ?_
    rw [e1]
    rintro e w' ⟨rfl, rfl⟩
    go_wp2_with fail
    go_ret
    exact ⟨rfl, bB⟩
  · go_enter Try.func4, Try.ntmps4
    go_wp2_with fail
    refine (new_any W).mono ?_
    rintro e w0 ⟨rfl, h0, b0⟩
    have hO : Only w0 W.heap.size _ _ _ [] := ⟨none, 0, h0⟩
    clear h0
    go_wp2_with fail
    refine (alive_any _).mono ?_
    rintro e w1 ⟨rfl, b1⟩
    have hB := (both_new hO).later b1
    have bB : Below W.heap.size W w1 := b0.trans (((below_new w0).mono b0.size).trans (b1.mono (Nat.le_trans b0.size (below_new w0).size)))
    clear b0 b1 hO
    go_wp2_with fail
    go_loopw [25] (fun i wr => LRel W (W.heap.size + 1 + 1) (W.heap.size + 1) W.heap.size w0.heap.size l M i wr) (fun i _ => M - (intOf i).toNat)
    case atStart => exact ⟨0, Nat.zero_le _, rfl, by simpa [puts] using hB, bB⟩
    case round =>
      obtain ⟨k, hk, rfl, hB1, bB1⟩ := hrel
      clear hB bB
      by_cases hlt : k < M
      · obtain ⟨b, off, rfl, hc, hs⟩ := arg_cell hcell bB1 (show k < l.length by omega)
        have hp := puts_take (l := l) (show k < l.length by omega)
        have hi : (k : Int) < (M : Int) := by omega
        have HP : Hid _ := hp
        clear hp
        generalize l[k] = s at hc hs HP
        go_wp2_with fail
        refine (put_both hB1 s hs).mono ?_
        rintro e w2 ⟨rfl, hB2, b2⟩
        go_wp2_with fail
        refine (rput_both hB2 s).mono ?_
        rintro e w3 ⟨rfl, hB3, b3⟩
        go_wp2_with fail
        go_roundw
        case rel => exact ⟨k + 1, by omega, by go_num, by rw [HP.out]; exact hB3, (bB1.trans b2).trans b3⟩
        case measure => simp [intOf]; omega
      · obtain rfl : k = M := by omega
        have hle : ¬ (k : Int) < (k : Int) := by omega
        generalize puts (l.take k) = zs at hB1
        go_wp2_with fail
        refine (less_only hB1.only m n).mono ?_
        rintro e w' ⟨rfl, rfl⟩
        go_wp2_with fail
        refine (rless_both hB1 m n).mono ?_
        rintro e w' ⟨rfl, rfl⟩
        have e1 := ahead_asymm zs m n
        have e2 := ahead_irrefl zs m
        have c1 := less_only hB1.only m n
        have c2 := less_only hB1.only n m
        have c3 := less_only hB1.only m m
        rw [e2] at c3
        generalize ahead zs m n = p at e1 c1 ⊢
        generalize ahead zs n m = q at e1 c2
        clear e2
        cases p with
        | true =>
          obtain rfl := e1 rfl
          clear e1
          go_wp2_with fail
          refine c1.mono ?_
          rintro e w' ⟨rfl, rfl⟩
          go_wp2_with fail
          refine c2.mono ?_
          rintro e w' ⟨rfl, rfl⟩
          go_wp2_with fail
          refine c3.mono ?_
          rintro e w' ⟨rfl, rfl⟩
          go_wp2_with fail
          go_ret
          exact ⟨rfl, bB1⟩
        | false =>
          clear e1
          go_wp2_with fail
          refine c1.mono ?_
          rintro e w' ⟨rfl, rfl⟩
          go_wp2_with fail
          refine c3.mono ?_
          rintro e w' ⟨rfl, rfl⟩
          go_wp2_with fail
          go_ret
          exact ⟨rfl, bB1⟩
end Go.Proofs.Ytomlednmikgkcaa
