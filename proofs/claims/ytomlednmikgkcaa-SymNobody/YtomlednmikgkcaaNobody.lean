/- The walk of SymNobody. -/
import Derived.Test.YtomlednmikgkcaaZero
namespace Go.Proofs.Ytomlednmikgkcaa
open Go.RowKit Go.Shelf

attribute [local go_sem] Oper.semAt_some Fence.wide

set_option maxRecDepth 100000 in
set_option maxHeartbeats 4000000 in
theorem symNobody_walk (W : World) (s : ByteArray) (m n : Int) :
    Calls Try.prog 7 #[.string s, .int .i64 m, .int .i64 n] W fun e w' => e = .returned (.bool true) ∧ Below W.heap.size W w' := by
  refine (callsIn_wide (n := 6)).1 ?_
  refine callsIn_of_wp_marks Try.func7 rfl trivial ?_ rfl
  simp only [Try.ntmps7, List.size_toArray, List.length_cons, List.length_nil, Nat.reduceAdd, Nat.reduceSub, Array.replicate_succ, Array.replicate_zero, List.push_toArray, List.append_toArray, List.nil_append, List.cons_append]
  gi_wp2_with fail
  obtain ⟨Wz, hWz⟩ : ∃ Wz, ((W.alloc (.cells #[.bool false] 4)).alloc (.cells #[.pointer none] 50)).alloc (.cells #[.pointer none, .pointer (some ⟨W.heap.size + 1, 0, none⟩)] 23) = Wz := ⟨_, rfl⟩
  have hsz : Wz.heap.size = W.heap.size + 1 + 1 + 1 := by rw [← hWz]; simp
  have hB0 : Below W.heap.size W Wz := by rw [← hWz]; exact (((Below.refl _ W).alloc (Nat.le_refl _) _).alloc (by simp) _).alloc (by simp; omega) _
  have hz1 : Wz.heap[W.heap.size + 1]? = some (.cells #[.pointer none] 50 (0, 0)) := by
    rw [← hWz]
    refine (Below.heap_alloc _ _ _ (by simp)).trans ?_
    have := World.alloc_heap_new (W.alloc (.cells #[.bool false] 4)) (.cells #[.pointer none] 50)
    rw [World.size_alloc] at this
    exact this
  have hz2 : Wz.heap[W.heap.size + 1 + 1]? = some (.cells #[.pointer none, .pointer (some ⟨W.heap.size + 1, 0, none⟩)] 23 (0, 0)) := by
    rw [← hWz]
    have := World.alloc_heap_new ((W.alloc (.cells #[.bool false] 4)).alloc (.cells #[.pointer none] 50)) (.cells #[.pointer none, .pointer (some ⟨W.heap.size + 1, 0, none⟩)] 23)
    simp only [World.size_alloc] at this
    exact this
  have hbx : Boxed Wz W.heap.size 4 (.bool false) := by rw [← hWz]; exact ((Boxed.new W 4 (.bool false)).alloc _).alloc _
  rw [hWz]
  have HSZ : Hid (Wz.heap.size = W.heap.size + 1 + 1 + 1) := hsz
  clear hWz hsz
  refine wpIn_loop_rounds 3 ?_
  rw [roundsIn_succ]
  have hZ0 : Zero Wz none := .inl rfl
  have q0 : Wz.cell? ⟨W.heap.size + 1 + 1, 0, none⟩ = some (.pointer none) := by simp [World.cell?, hz2]
  gi_wp2_with fail
  refine (callsIn_wide.2 (putZ hZ0 s)).mono ?_
  rintro e w' ⟨rfl, rfl⟩
  gi_wp2_with fail
  refine (callsIn_wide.2 (getZ hZ0 s)).mono ?_
  rintro e w' ⟨rfl, rfl⟩
  gi_wp2_with fail
  refine (callsIn_wide.2 (textZ hZ0 m)).mono ?_
  rintro e w' ⟨rfl, rfl⟩
  gi_wp2_with fail
  refine (callsIn_wide.2 (lenZ hZ0)).mono ?_
  rintro e w' ⟨rfl, rfl⟩
  gi_wp2_with fail
  refine (callsIn_wide.2 (lessZ hZ0 m n)).mono ?_
  rintro e w' ⟨rfl, rfl⟩
  gi_wp2_with fail
  refine (all_in _ _ _).mono ?_
  rintro e w2 ⟨rfl, rfl⟩
  gi_wp2_with fail
  refine wpIn_rangeFunc_ownG rfl (by omega) (gf := 24) (lb := #[.pointer (some ⟨w'.heap.size, 0, none⟩)]) rfl trivial (enters_of Try.func24 (by kernel_rfl) rfl)
    (zero_stops (6 - 1) (by omega) w'.heap.size none (w'.alloc (.cells #[.pointer none] 23)) (Boxed.new w' 23 (.pointer none)) (fun _ _ => .inl rfl)) (fun _ _ => trivial) (fun _ _ _ _ _ _ _ _ => trivial) (Below.refl _ _) (fun _ => rfl)
    (fun _ W1 => Below w'.heap.size w' W1) (fun _ _ _ => False) (ownFrom_below (Nat.le_refl _) (by simp)) (fun _ _ _ _ _ hs _ _ => hs) ((Below.refl _ w').alloc (Nat.le_refl _) _) ?a1 ?assign1 ?body1 ?done1 ?stop1
  case assign1 =>
    intro l x W1 K hK
    gi_wp2
    exact hK
  case body1 =>
    intro l pre x W1 _ h
    exact absurd h (Nat.not_lt_zero _)
  case stop1 =>
    rintro D c pre W1 _ h
    exact h.elim
  case done1 =>
    rintro D1 ys W1 hD1 rfl hB1 hK1
    have hsz := HSZ.out
    have hz1' : W1.heap[W.heap.size + 1]? = some (.cells #[.pointer none] 50 (0, 0)) := (hB1.block _ (by omega)).trans hz1
    have hz2' : W1.heap[W.heap.size + 1 + 1]? = some (.cells #[.pointer none, .pointer (some ⟨W.heap.size + 1, 0, none⟩)] 23 (0, 0)) := (hB1.block _ (by omega)).trans hz2
    have hbx1 : Boxed W1 W.heap.size 4 (.bool false) := (hB1.block _ (by omega)).trans hbx
    have hZ1 : Zero W1 (some ⟨W.heap.size + 1, 0, none⟩) := .inr ⟨_, rfl, hz1'⟩
    have q1 : W1.cell? ⟨W.heap.size + 1 + 1, 1, none⟩ = some (.pointer (some ⟨W.heap.size + 1, 0, none⟩)) := by simp [World.cell?, hz2']
    clear q0 hsz
    gi_wp2_with fail
    rw [roundsIn_succ]
    gi_wp2_with fail
    refine (callsIn_wide.2 (putZ hZ1 s)).mono ?_
    rintro e w' ⟨rfl, rfl⟩
    gi_wp2_with fail
    refine (callsIn_wide.2 (getZ hZ1 s)).mono ?_
    rintro e w' ⟨rfl, rfl⟩
    gi_wp2_with fail
    refine (callsIn_wide.2 (textZ hZ1 m)).mono ?_
    rintro e w' ⟨rfl, rfl⟩
    gi_wp2_with fail
    refine (callsIn_wide.2 (lenZ hZ1)).mono ?_
    rintro e w' ⟨rfl, rfl⟩
    gi_wp2_with fail
    refine (callsIn_wide.2 (lessZ hZ1 m n)).mono ?_
    rintro e w' ⟨rfl, rfl⟩
    gi_wp2_with fail
    refine (all_in _ _ _).mono ?_
    rintro e w2 ⟨rfl, rfl⟩
    gi_wp2_with fail
    refine wpIn_rangeFunc_ownG rfl (by omega) (gf := 24) (lb := #[.pointer (some ⟨w'.heap.size, 0, none⟩)]) rfl trivial (enters_of Try.func24 (by kernel_rfl) rfl)
      (zero_stops (6 - 1) (by omega) w'.heap.size (some ⟨W.heap.size + 1, 0, none⟩) (w'.alloc (.cells #[.pointer (some ⟨W.heap.size + 1, 0, none⟩)] 23)) (Boxed.new w' 23 (.pointer (some ⟨W.heap.size + 1, 0, none⟩))) (fun W2 hW2 => .inr ⟨_, rfl, (hW2.block _ (by have := lt_of_heap hz1'; simp; omega)).trans ((Below.heap_alloc _ _ _ (lt_of_heap hz1')).trans hz1')⟩)) (fun _ _ => trivial) (fun _ _ _ _ _ _ _ _ => trivial) (Below.refl _ _) (fun _ => rfl)
      (fun _ W2 => Below w'.heap.size w' W2) (fun _ _ _ => False) (ownFrom_below (Nat.le_refl _) (by simp)) (fun _ _ _ _ _ hs _ _ => hs) ((Below.refl _ w').alloc (Nat.le_refl _) _) ?a2 ?assign2 ?body2 ?done2 ?stop2
    case assign2 =>
      intro l x W2 K hK
      gi_wp2
      exact hK
    case body2 =>
      intro l pre x W2 _ h
      exact absurd h (Nat.not_lt_zero _)
    case stop2 =>
      rintro D c pre W2 _ h
      exact h.elim
    case done2 =>
      rintro D2 ys W2 hD2 rfl hB2 hK2
      have hD1lt := lt_of_heap hK1
      have hK1' : W2.heap[D1]? = some (.deferred (some [])) := (hB2.block _ hD1lt).trans hK1
      have hbx2 : Boxed W2 W.heap.size 4 (.bool false) := (hB2.block _ hbx1.lt).trans hbx1
      have hsz := HSZ.out
      have s1 := hB1.size
      have s2 := hB2.size
      have hBW : Below W.heap.size W W2 := (hB0.trans (hB1.mono (by omega))).trans (hB2.mono (by omega))
      clear hsz
      gi_wp2_with fail
      rw [roundsIn_succ]
      gi_wp2_with fail
      refine (callsIn_wide.2 (alive_any _)).mono ?_
      rintro e W3 ⟨rfl, b3⟩
      have hbx3 := (b3.block _ hbx2.lt).trans hbx2
      have hbx3 : Boxed W3 W.heap.size 4 (.bool false) := hbx3
      have g3 := hbx3.cell
      have gf3 := hbx3.frozen
      have kD1 : W3.heap[D1]? = some (.deferred (some [])) := (b3.block _ (lt_of_heap hK1')).trans hK1'
      have kD2 : W3.heap[D2]? = some (.deferred (some [])) := (b3.block _ (lt_of_heap hK2)).trans hK2
      gi_wp2_with fail
      have hs3 := b3.size
      have hs2 := hBW.size
      have hBW3 : Below W.heap.size W (W3.setCell ⟨W.heap.size, 0, none⟩ (.bool true)) := (hBW.trans (b3.mono (by omega))).setCell (p := ⟨W.heap.size, 0, none⟩) (Nat.le_refl _) _
      have hne : D1 ≠ D2 := by simp at hD2; omega
      have k2 : (W3.setCell ⟨W.heap.size, 0, none⟩ (.bool true)).heap[D2]? = some (.deferred (some [])) := (KeepsOthers.setCell W3 ⟨W.heap.size, 0, none⟩ (.bool true)).same D2 _ kD2 rfl
      have k1 : (W3.setCell ⟨W.heap.size, 0, none⟩ (.bool true)).heap[D1]? = some (.deferred (some [])) := (KeepsOthers.setCell W3 ⟨W.heap.size, 0, none⟩ (.bool true)).same D1 _ kD1 rfl
      have k1' : ((W3.setCell ⟨W.heap.size, 0, none⟩ (.bool true)).putObj D2 (.deferred none)).heap[D1]? = some (.deferred (some [])) := ((grownBy_putObj' _ D2 (.deferred none)).block D1 (lt_of_heap k1) (fun e => hne (by simpa using e))).trans k1
      have hc4 := (hbx3.set (.bool true)).cell
      have hc5 := cell_kept hc4 (grownBy_putObj' _ D2 (.deferred none)) (fun r e => by cases e; exact ⟨_, k2, rfl⟩)
      have hc6 := cell_kept hc5 (grownBy_putObj' _ D1 (.deferred none)) (fun r e => by cases e; exact ⟨_, k1', rfl⟩)
      have hsz := HSZ.out
      refine ⟨by simp, .inl ⟨_, _, rfl, run_takeDeferred k2, by simp, .inl ⟨_, _, rfl, run_takeDeferred k1', ?_⟩⟩⟩
      refine ⟨.bool true, ?_, rfl, (hBW3.trans (belowK_b (w := W) (Nat.le_refl _) _ D2 _ _ (by simp at hD2; omega) k2 rfl rfl)).trans (belowK_b (w := W) (Nat.le_refl _) _ D1 _ _ (by simp at hD1; omega) k1' rfl rfl)⟩
      simp [results, Try.f7, go_sem, hc6]
end Go.Proofs.Ytomlednmikgkcaa
