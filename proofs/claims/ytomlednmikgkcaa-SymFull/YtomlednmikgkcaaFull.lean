/- The walk of SymFull. -/
import Derived.Test.YtomlednmikgkcaaFullMath
namespace Go.Proofs.Ytomlednmikgkcaa
open Go.RowKit Go.Maps

/-- Between two rounds. -/
def FRel (W : World) (tb hb mb bb : Nat) (i : Value) (wr : World) : Prop :=
  ∃ k : Nat, k ≤ 16384 ∧ i = .int .i64 (k : Int) ∧ Only wr W.heap.size tb hb mb (fs k) ∧ Below W.heap.size W wr ∧ ∃ x y z : Int, bytes3 wr bb x y z

set_option maxRecDepth 100000 in
set_option maxHeartbeats 4000000 in
theorem symFull_walk (W : World) (s : ByteArray) (hs : s.size ≤ 281474976710656) :
    Calls Try.prog 8 #[.string s] W fun e w' => e = .returned (.bool true) ∧ Below W.heap.size W w' := by
  go_enter Try.func8, Try.ntmps8
  go_wp2_with fail
  refine (new_any W).mono ?_
  rintro e w0 ⟨rfl, h0, b0⟩
  have hO : Only w0 W.heap.size _ _ _ [] := ⟨none, 0, h0⟩
  clear h0
  go_wp2_with fail
  refine (alive_any _).mono ?_
  rintro e w1 ⟨rfl, b1⟩
  have hB := hO.later b1
  have bB : Below W.heap.size W w1 := b0.trans (b1.mono b0.size)
  clear b0 b1 hO
  have hw1 := bB.size
  go_wp2_with fail
  go_loopw [20] (fun i wr => FRel W (W.heap.size + 1 + 1) (W.heap.size + 1) W.heap.size w1.heap.size i wr) (fun i _ => 16384 - (intOf i).toNat)
  case atStart => exact ⟨0, Nat.zero_le _, rfl, hB.later ((Below.refl _ w1).alloc (Nat.le_refl _) _), bB.alloc bB.size _, 0, 0, 0, World.alloc_heap_new w1 _⟩
  case round =>
    obtain ⟨k, hk, rfl, hB1, bB1, x, y, z, hbb⟩ := hrel
    clear hB bB
    have hbh : wr.heap[w1.heap.size]? = some (.cells #[.int .u8 x, .int .u8 y, .int .u8 z] 5 (0, 0)) := hbb
    have c0 : wr.cell? ⟨w1.heap.size, 0, none⟩ = some (.int .u8 x) := by simp [World.cell?, hbh]
    have c1 : wr.cell? ⟨w1.heap.size, 1, none⟩ = some (.int .u8 y) := by simp [World.cell?, hbh]
    have c2 : wr.cell? ⟨w1.heap.size, 2, none⟩ = some (.int .u8 z) := by simp [World.cell?, hbh]
    have f0 : ∀ j, wr.frozen? ⟨w1.heap.size, j, none⟩ = false := fun j => by simp [World.frozen?, hbh]
    have f00 := f0 0
    have f01 := f0 1
    have f02 := f0 2
    clear f0 hbh
    by_cases hlt : k < 16384
    · have hi2 : (k : Int) < 16384 := by omega
      have hbs := bytes3_set hbb ((k : Int) / 256) ((k : Int) % 256) 7
      have hcv := bytes3_conv hbs hlt
      have htn := turn3 wr w1.heap.size (.int .u8 ((k : Int) / 256)) (.int .u8 ((k : Int) % 256)) (.int .u8 7)
      have hB2 := only_bytes hB1 hbb htn
      have bB2 := bB1.trans (htn.below bB1.size (fun q e => e ▸ hw1))
      have hcall := put_bytes hB2 hbs (tx k) (tx_size k)
      rw [(fs_put hlt).1, (fs_put hlt).2.1, (fs_put hlt).2.2] at hcall
      go_wp2_with fail
      refine hcall.mono ?_
      rintro e w2 ⟨rfl, hB3, b3, hbb3⟩
      clear hcall hcv hbs htn
      go_wp2_with fail
      go_roundw
      case rel => exact ⟨k + 1, by omega, by go_num, hB3, bB2.trans b3, _, _, _, hbb3⟩
      case measure => simp [intOf]; omega
    · obtain rfl : k = 16384 := by omega
      clear c0 c1 c2 f00 f01 f02 hbb hlt
      obtain ⟨zs, ez, hz, hput0, hno, hyes⟩ := full_facts s
      rw [ez] at hB1
      clear ez
      have hput := put_only hB1 s hs
      rw [hput0] at hput
      clear hput0
      go_wp2_with fail
      refine hput.mono ?_
      rintro e w2 ⟨rfl, hB2, b2⟩
      have hb := bB1.trans b2
      have hg := get_only hB2 s hs
      have hlen := len_only hB2
      rw [hz] at hlen
      clear hput hB1
      cases ht : there zs s with
      | true =>
        rw [ht] at hg
        obtain ⟨e1, i, hi, e2, rfl⟩ := hyes ht
        rw [e1, e2]
        clear hno hyes
        go_wp2_with fail
        refine hg.mono ?_
        rintro e w' ⟨rfl, rfl⟩
        clear hs
        have hsz : (tx i).size = 3 := rfl
        go_wp2_with fail
        go_quiet (fail)
        have hor := or_back hi (by rw [hsz]; omega) (by rw [hsz]; omega)
        go_wp2_with fail
        go_ret
        refine ⟨?_, hb.trans (below_drewN2 _ _ _)⟩
        exact congrArg (fun q => Ending.returned (Value.bool q)) hor
      | false =>
        rw [ht] at hg
        obtain ⟨e1, e2⟩ := hno ht
        rw [e1, e2]
        clear hno hyes
        go_wp2_with fail
        refine hg.mono ?_
        rintro e w' ⟨rfl, rfl⟩
        go_wp2_with (go_at_call 20; refine hlen.mono ?_; rintro e w' ⟨rfl, rfl⟩)
        go_ret
        exact ⟨rfl, hb⟩
end Go.Proofs.Ytomlednmikgkcaa
