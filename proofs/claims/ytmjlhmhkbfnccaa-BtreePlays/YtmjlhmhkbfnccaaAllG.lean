/- All: what it answers goes over all tuples. -/
import Derived.Test.YtmjlhmhkbfnccaaGoes
namespace Go.Proofs.Ytmjlhmhkbfnccaa
open Go.RowKit Go.Shelf

attribute [local go_sem] Oper.semAt_some

theorem drew_alloc (w : World) (o : Obj) : w.drew.alloc o = (w.alloc o).drew := rfl
theorem drew_size (w : World) : w.drew.heap.size = w.heap.size := rfl
theorem cell_at {w : World} {b : Nat} {Z : Array Value} {t : TypeId} {f : Nat × Nat} (h : w.heap[b]? = some (.cells Z t f)) (j : Nat) : w.cell? ⟨b, j, none⟩ = Z[j]? := by simp [World.cell?, h]
/-- A row of zeros that was made. -/
theorem zeros_made (n : Nat) : (madeCells #[Value.int .i64 0] n).toList = (List.replicate n (0 : Int)).map (Value.int .i64) := by
  apply List.ext_getElem
  · simp [size_madeCells]
  · intro i h1 h2
    simp [madeCells, Nat.mod_one]
theorem zeros_run (n : Nat) (hn : n ≤ 8) : ∃ Z : Array Value, Z.toList = (List.replicate n (0 : Int)).map (Value.int .i64) ∧ ∀ w : World, (Instr.makeSlice 22 (.int .i64 (n : Int)) (.int .i64 (n : Int))).run Try.prog w = .ok (.slice (some ⟨w.heap.size, 0, none⟩) n n) (w.alloc (.cells Z 3)) := by
  obtain ⟨i, h1, h2, h3, h4⟩ := infoI
  have ht : Try.prog.underlying 22 = some (.slice 3) := by kernel_rfl
  refine ⟨madeCells #[Value.int .i64 0] n, zeros_made n, fun w => ?_⟩
  have := run_make (P := Try.prog) w 22 3 i _ ht h1 h2 .i64 .i64 n n (by omega) (Int.le_refl _) (by rw [h4]; omega) (by omega)
  rw [h3] at this
  simpa [Value.cells] using this
theorem zeros_own {n : Nat} {Z : Array Value} (hZ : Z.toList = (List.replicate n (0 : Int)).map (Value.int .i64)) (hn : n ≤ 8) (w : World) : IntsS (fun b => w.heap.size ≤ b) (w.alloc (.cells Z 3)) (.slice (some ⟨w.heap.size, 0, none⟩) n n) (List.replicate n 0) := by
  have hw := World.alloc_heap_new w (.cells Z 3)
  refine ⟨_, n, by simp, by simp, by omega, fun j hj => ⟨w.heap.size, 0, rfl, Nat.le_refl _, ?_⟩⟩
  have hj' : j < n := by simpa using hj
  have hz : Z[j]? = some (.int .i64 0) := by
    rw [← Array.getElem?_toList, hZ]
    simp [hj']
  rw [Nat.zero_add, cell_at hw, hz]
  simp [List.getD, hj']

set_option maxRecDepth 100000 in
set_option maxHeartbeats 1000000 in
theorem all1_goes (S : Nat → Prop) (W : World) (sb hb bs : Nat) (o : List Int) (l : List Item) (h : SetAt S W sb hb o l) (hB : BndI l) (hbs : Boxed W bs 33 (.pointer (some ⟨sb, 0, none⟩))) :
    GoesAtH 41 #[.pointer (some ⟨bs, 0, none⟩)] l.length (Hands l) (fun b => S b ∧ b < W.heap.size) W := by
  have hl := like_all h.ok h.rises hB
  intro lp J Jx O hSO hO hJ hJx hY h0
  rw [← hl] at hY
  obtain ⟨ov, p, d, hh, hov, hT⟩ := h.held
  obtain ⟨oa, oc, rfl, _⟩ := id hov
  have hnow : Calls Try.prog 40 #[.pointer (some ⟨sb, 0, none⟩)] W fun e w' => e = .returned (.agg #[.slice oa o.length oc, .pointer p, .int .i64 (l.length : Int)]) ∧ Below W.heap.size W w' :=
    now_any W sb hb _ _ p oa o.length oc l.length rfl rfl h.s0 hh
  have NEXT : Hid (∀ W1, Below W.heap.size W W1 → ∀ xa xc, IntsS (fun b => S b ∨ W.heap.size ≤ b) W1 (.slice xa (List.replicate o.length (0 : Int)).length xc) (List.replicate o.length 0) → _) := fun W1 hb1 xa xc hx => like_next (xa := xa) (xc := xc) (k := 0) h.ok h.rises hov hT hSO hO hJ hJx hY h0 W1 hb1 hx
  rw [List.length_replicate, hl] at NEXT
  have q1 := hbs.cell
  have l1 := hbs.lt
  have h8 := (right_in h.ok).1
  have mixed : Try.prog.follows .mixedOrders = true := by kernel_rfl
  clear hov hT hh h hSO hO hJ hJx hY h0 hbs hl hB
  go_enter Try.func41, Try.ntmps41
  go_wp2_with fail
  refine hnow.mono ?_
  clear hnow
  rintro e W1 ⟨rfl, hb1⟩
  obtain ⟨W2, hW2⟩ : ∃ W2, W2 = W1.alloc (.cells #[.slice oa o.length oc, .pointer p, .int .i64 (l.length : Int)] 80) := ⟨_, rfl⟩
  have hb2 : Below W.heap.size W W2 := by rw [hW2]; exact hb1.alloc hb1.size _
  have hnw := World.alloc_heap_new W1 (.cells #[.slice oa o.length oc, .pointer p, .int .i64 (l.length : Int)] 80)
  rw [← hW2] at hnw
  obtain ⟨c0, c1, c2, _⟩ := three_cells hnw
  go_wp2_with fail
  rw [← hW2]
  have hlt2 : W1.heap.size < W2.heap.size := by rw [hW2]; simp
  clear hW2 hnw hb1
  obtain ⟨Z, hZ, hmk⟩ := zeros_run o.length h8
  have hb3 : Below W2.heap.size W2 (W2.drew.alloc (.cells Z 3)) := ((Below.refl _ W2).drew).alloc (Nat.le_refl _) _
  have hb03 : Below W.heap.size W (W2.drew.alloc (.cells Z 3)) := hb2.trans (hb3.mono hb2.size)
  have hcl := unhide NEXT (W2.drew.alloc (.cells Z 3)) hb03 (some ⟨W2.heap.size, 0, none⟩) o.length ((zeros_own hZ h8 W2.drew).mono (fun b _ h => .inr (by have := hb2.size; have h2 : W2.heap.size ≤ b := h; omega)))
  have hal := alike_any (W2.drew.alloc (.cells Z 3)) p oa (some ⟨W2.heap.size, 0, none⟩) o.length oc o.length o.length l.length 0
  simp only [drew_alloc, drew_size, World.size_alloc] at hcl
  clear NEXT hb2 hb3 hb03 hZ
  obtain ⟨RR, hRR⟩ : ∃ RR : World → Prop, RR = fun W2 => ((∃ O', J l.length O' W2 ∧ (∀ b, O' b → (O b ∨ W.heap.size ≤ b) ∧ b < W2.heap.size)) ∨ ∃ j, j ≤ l.length ∧ Jx j W2) := ⟨_, rfl⟩
  obtain ⟨PP, hPP⟩ : ∃ PP : Act → World → Prop, PP = fun a' w2 => ∃ z2 z3 z4 z5 z6 z7 z8 z9 z10 z11 z12 z13 : Value, a' = { tmps := #[.func (.yield lp) #[] #[], .pointer (some ⟨bs, 0, none⟩), z2, z3, z4, z5, z6, z7, z8, z9, z10, z11, z12, z13], defers := [] } ∧ RR w2 := ⟨_, rfl⟩
  have HPP := hide hPP
  have HRR := hide hRR
  clear hPP hRR
  refine wp_mono (Q := fun e a' w2 => match e with | Exit.normal => PP a' w2 | _ => False) ?_ ?_
  · go_region_with (first
      | (go_at_call 42; refine hal.mono ?_; clear hal; rintro e W4 ⟨rfl, rfl⟩)
      | (go_at_call 54; refine hcl.mono ?_; clear hcl; rintro e W5 ⟨⟨rv, rfl⟩, h4⟩))
    all_goals
      rw [unhide HPP]
      exact ⟨_, _, _, _, _, _, _, _, _, _, _, _, rfl, by rw [unhide HRR]; exact h4⟩
  · intro e a' w2 h
    cases e with
    | exit id => exact h.elim
    | goto tt => exact h.elim
    | ret => exact h.elim
    | panic ch => exact h.elim
    | outgrown => exact h.elim
    | normal =>
    rw [unhide HPP] at h
    obtain ⟨z2, z3, z4, z5, z6, z7, z8, z9, z10, z11, z12, z13, rfl, h4⟩ := h
    go_wp2_with fail
    go_end0
    rw [unhide HRR] at h4
    exact ⟨⟨_, rfl⟩, h4⟩
end Go.Proofs.Ytmjlhmhkbfnccaa
