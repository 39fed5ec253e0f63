/- alive. -/
import Derived.Test.YtmjlhmhkbfnccaaRangeT
namespace Go.Proofs.Ytmjlhmhkbfnccaa
open Go.RowKit Go.Shelf

theorem lit2 (w : World) (a b : Int) : Ints (w.alloc (.cells #[.int .i64 a, .int .i64 b] 3)).heap.size (w.alloc (.cells #[.int .i64 a, .int .i64 b] 3)) (.slice (some ⟨w.heap.size, 0, none⟩) 2 2) [a, b] := by
  have hn := World.alloc_heap_new w (.cells #[.int .i64 a, .int .i64 b] 3)
  refine ⟨_, 2, rfl, Nat.le_refl _, by omega, fun j x hj => ⟨w.heap.size, 0, rfl, by simp, ?_⟩⟩
  match j, hj with
  | 0, hj => simp at hj; subst hj; rw [cell_at hn]; rfl
  | 1, hj => simp at hj; subst hj; rw [cell_at hn]; rfl
theorem lit2S (S : Nat → Prop) (w : World) (a b : Int) (h : S w.heap.size) : IntsS S (w.alloc (.cells #[.int .i64 a, .int .i64 b] 3)) (.slice (some ⟨w.heap.size, 0, none⟩) 2 2) [a, b] := by
  have hn := World.alloc_heap_new w (.cells #[.int .i64 a, .int .i64 b] 3)
  refine ⟨_, 2, rfl, Nat.le_refl _, by omega, fun j hj => ⟨w.heap.size, 0, rfl, h, ?_⟩⟩
  match j, hj with
  | 0, _ => rw [cell_at hn]; rfl
  | 1, _ => rw [cell_at hn]; rfl
  | j + 2, hj => exact absurd (show j + 2 < 2 from hj) (by omega)
theorem alloc_below (w : World) (o : Obj) : Below w.heap.size w (w.alloc o) := (Below.refl _ w).alloc (Nat.le_refl _) o
theorem bnd2 {a b : Int} (ha : -9223372036854775808 ≤ a) (hb : -9223372036854775808 ≤ b) : Bnd [a, b] := fun n hn => by
  rcases List.mem_cons.1 hn with e | hn
  · omega
  · rw [List.mem_singleton.1 hn]; omega

theorem ins2 (n hb : Nat) (w : World) (sb : Nat) (a b : Int) (xs ys : List (List Int)) (bl : Bool) (h : SetT (fun q => q ≠ hb) w sb hb [1, 0] xs) (hnb : n ≤ hb) (hn : n ≤ w.heap.size) (ha : -9223372036854775808 ≤ a) (hb' : -9223372036854775808 ≤ b) (e1 : insBL [1, 0] [a, b] xs = bl) (e2 : insTo [1, 0] [a, b] xs = ys) :
    Calls Try.prog 14 #[.pointer (some ⟨sb, 0, none⟩), .slice (some ⟨w.heap.size, 0, none⟩) 2 2] (w.alloc (.cells #[.int .i64 a, .int .i64 b] 3)) fun e w' => ∃ er, e = .returned (.tuple #[.bool bl, .int .i64 er]) ∧ SetT (fun q => q ≠ hb) w' sb hb [1, 0] ys ∧ Below n w w' := by
  have hlt := h.lt
  refine (insert_T _ _ sb hb [1, 0] [a, b] xs _ (h.later (alloc_below w _)) (lit2 w a b) (bnd2 ha hb') (fun q hq => by simp at hq; show q ≠ hb; omega)).mono ?_
  rintro e w' ⟨rfl, h2, h3⟩
  exact ⟨_, by rw [e1], by rw [← e2]; exact h2, ((alloc_below w _).mono hn).trans (h3.below (by simp; omega) (fun q hq => by omega))⟩

theorem row_lit {S : Nat → Prop} {w : World} {t : TypeId} (vs : List Value) (hw : S w.heap.size) (h8 : vs.length ≤ 8) : Row S (w.alloc (.cells vs.toArray t)) (.slice (some ⟨w.heap.size, 0, none⟩) vs.length vs.length) vs.length (fun j => vs.getD j undef) := by
  have hn := World.alloc_heap_new w (.cells vs.toArray t)
  refine ⟨_, _, rfl, Nat.le_refl _, by omega, fun j hj => ⟨w.heap.size, 0, rfl, hw, ?_⟩⟩
  rw [Nat.zero_add, cell_at hn]
  simp [List.getD, List.getElem?_eq_getElem hj]

theorem lit3 (w8 w : World) (rv : Value) (sb hb : Nat) (S B : Nat → Prop) {xs : List (List Int)} {o : List Int} (hL8 : ListAt B w8 rv xs) {ys : List (List Int)} (hT8 : SetT S w8 sb hb o ys) (hB8 : Below w.heap.size w w8) :
    Calls Try.prog 16 #[rv, .slice (some ⟨w8.heap.size + 1 + 1 + 1, 0, none⟩) 3 3] ((((w8.alloc (.cells #[.int .i64 1, .int .i64 2] 3)).alloc (.cells #[.int .i64 5, .int .i64 2] 3)).alloc (.cells #[.int .i64 0, .int .i64 3] 3)).alloc (.cells #[.slice (some ⟨w8.heap.size, 0, none⟩) 2 2, .slice (some ⟨w8.heap.size + 1, 0, none⟩) 2 2, .slice (some ⟨w8.heap.size + 1 + 1, 0, none⟩) 2 2] 22))
      (fun e w' => e = .returned (.bool (sameLB xs [[1, 2], [5, 2], [0, 3]])) ∧ Below ((((w8.alloc (.cells #[.int .i64 1, .int .i64 2] 3)).alloc (.cells #[.int .i64 5, .int .i64 2] 3)).alloc (.cells #[.int .i64 0, .int .i64 3] 3)).alloc (.cells #[.slice (some ⟨w8.heap.size, 0, none⟩) 2 2, .slice (some ⟨w8.heap.size + 1, 0, none⟩) 2 2, .slice (some ⟨w8.heap.size + 1 + 1, 0, none⟩) 2 2] 22)).heap.size ((((w8.alloc (.cells #[.int .i64 1, .int .i64 2] 3)).alloc (.cells #[.int .i64 5, .int .i64 2] 3)).alloc (.cells #[.int .i64 0, .int .i64 3] 3)).alloc (.cells #[.slice (some ⟨w8.heap.size, 0, none⟩) 2 2, .slice (some ⟨w8.heap.size + 1, 0, none⟩) 2 2, .slice (some ⟨w8.heap.size + 1 + 1, 0, none⟩) 2 2] 22)) w') ∧
    SetT S ((((w8.alloc (.cells #[.int .i64 1, .int .i64 2] 3)).alloc (.cells #[.int .i64 5, .int .i64 2] 3)).alloc (.cells #[.int .i64 0, .int .i64 3] 3)).alloc (.cells #[.slice (some ⟨w8.heap.size, 0, none⟩) 2 2, .slice (some ⟨w8.heap.size + 1, 0, none⟩) 2 2, .slice (some ⟨w8.heap.size + 1 + 1, 0, none⟩) 2 2] 22)) sb hb o ys ∧
    Below w.heap.size w ((((w8.alloc (.cells #[.int .i64 1, .int .i64 2] 3)).alloc (.cells #[.int .i64 5, .int .i64 2] 3)).alloc (.cells #[.int .i64 0, .int .i64 3] 3)).alloc (.cells #[.slice (some ⟨w8.heap.size, 0, none⟩) 2 2, .slice (some ⟨w8.heap.size + 1, 0, none⟩) 2 2, .slice (some ⟨w8.heap.size + 1 + 1, 0, none⟩) 2 2] 22)) := by
  obtain ⟨V1, hV1⟩ : ∃ V1, V1 = w8.alloc (.cells #[.int .i64 1, .int .i64 2] 3) := ⟨_, rfl⟩
  obtain ⟨V2, hV2⟩ : ∃ V2, V2 = V1.alloc (.cells #[.int .i64 5, .int .i64 2] 3) := ⟨_, rfl⟩
  obtain ⟨V3, hV3⟩ : ∃ V3, V3 = V2.alloc (.cells #[.int .i64 0, .int .i64 3] 3) := ⟨_, rfl⟩
  obtain ⟨V4, hV4⟩ : ∃ V4, V4 = V3.alloc (.cells #[.slice (some ⟨w8.heap.size, 0, none⟩) 2 2, .slice (some ⟨w8.heap.size + 1, 0, none⟩) 2 2, .slice (some ⟨w8.heap.size + 1 + 1, 0, none⟩) 2 2] 22) := ⟨_, rfl⟩
  rw [← hV1, ← hV2, ← hV3, ← hV4]
  have z1 : V1.heap.size = w8.heap.size + 1 := by rw [hV1]; simp
  have z2 : V2.heap.size = w8.heap.size + 1 + 1 := by rw [hV2]; simp [z1]
  have z3 : V3.heap.size = w8.heap.size + 1 + 1 + 1 := by rw [hV3]; simp [z2]
  have c1 : Below w8.heap.size w8 V1 := by rw [hV1]; exact alloc_below _ _
  have c2 : Below V1.heap.size V1 V2 := by rw [hV2]; exact alloc_below _ _
  have c3 : Below V2.heap.size V2 V3 := by rw [hV3]; exact alloc_below _ _
  have c4 : Below V3.heap.size V3 V4 := by rw [hV4]; exact alloc_below _ _
  have j1 : IntsS (fun _ => True) V1 (.slice (some ⟨w8.heap.size, 0, none⟩) 2 2) [1, 2] := by rw [hV1]; exact lit2S _ _ _ _ trivial
  have j2 : IntsS (fun _ => True) V2 (.slice (some ⟨w8.heap.size + 1, 0, none⟩) 2 2) [5, 2] := by rw [hV2, ← z1]; exact lit2S _ _ _ _ trivial
  have j3 : IntsS (fun _ => True) V3 (.slice (some ⟨w8.heap.size + 1 + 1, 0, none⟩) 2 2) [0, 3] := by rw [hV3, ← z2]; exact lit2S _ _ _ _ trivial
  have c84 : Below w8.heap.size w8 V4 := ((c1.trans (c2.mono c1.size)).trans (c3.mono (Nat.le_trans c1.size c2.size))).trans (c4.mono (Nat.le_trans (Nat.le_trans c1.size c2.size) c3.size))
  have hLit : ListAt (fun _ => True) V4 (.slice (some ⟨w8.heap.size + 1 + 1 + 1, 0, none⟩) 3 3) [[1, 2], [5, 2], [0, 3]] := by
    refine ⟨_, (by rw [hV4, ← z3]; exact row_lit (S := fun _ => True) (w := V3) (t := 22) [.slice (some ⟨w8.heap.size, 0, none⟩) 2 2, .slice (some ⟨w8.heap.size + 1, 0, none⟩) 2 2, .slice (some ⟨w8.heap.size + 1 + 1, 0, none⟩) 2 2] trivial (by simp)), fun j hj => ?_⟩
    match j, hj with
    | 0, _ => exact ((j1.later c2).later c3).later c4
    | 1, _ => exact (j2.later c3).later c4
    | 2, _ => exact j3.later c4
    | j + 3, hj => exact absurd (show j + 3 < 3 from hj) (by omega)
  exact ⟨rsame_any (fun _ => True) V4 _ _ _ _ ((hL8.mono (B' := fun _ => True) (fun _ _ _ => trivial)).later c84) hLit, hT8.later c84, hB8.trans (c84.mono hB8.size)⟩

theorem lit22 (w8 w : World) (rv : Value) (B : Nat → Prop) {xs : List (List Int)} (hL8 : ListAt B w8 rv xs) (hB8 : Below w.heap.size w w8) :
    Calls Try.prog 16 #[rv, .slice (some ⟨w8.heap.size + 1 + 1, 0, none⟩) 2 2] (((w8.alloc (.cells #[.int .i64 1, .int .i64 2] 3)).alloc (.cells #[.int .i64 5, .int .i64 2] 3)).alloc (.cells #[.slice (some ⟨w8.heap.size, 0, none⟩) 2 2, .slice (some ⟨w8.heap.size + 1, 0, none⟩) 2 2] 22))
      (fun e w' => e = .returned (.bool (sameLB xs [[1, 2], [5, 2]])) ∧ Below (((w8.alloc (.cells #[.int .i64 1, .int .i64 2] 3)).alloc (.cells #[.int .i64 5, .int .i64 2] 3)).alloc (.cells #[.slice (some ⟨w8.heap.size, 0, none⟩) 2 2, .slice (some ⟨w8.heap.size + 1, 0, none⟩) 2 2] 22)).heap.size (((w8.alloc (.cells #[.int .i64 1, .int .i64 2] 3)).alloc (.cells #[.int .i64 5, .int .i64 2] 3)).alloc (.cells #[.slice (some ⟨w8.heap.size, 0, none⟩) 2 2, .slice (some ⟨w8.heap.size + 1, 0, none⟩) 2 2] 22)) w') ∧
    Below w.heap.size w (((w8.alloc (.cells #[.int .i64 1, .int .i64 2] 3)).alloc (.cells #[.int .i64 5, .int .i64 2] 3)).alloc (.cells #[.slice (some ⟨w8.heap.size, 0, none⟩) 2 2, .slice (some ⟨w8.heap.size + 1, 0, none⟩) 2 2] 22)) := by
  obtain ⟨V1, hV1⟩ : ∃ V1, V1 = w8.alloc (.cells #[.int .i64 1, .int .i64 2] 3) := ⟨_, rfl⟩
  obtain ⟨V2, hV2⟩ : ∃ V2, V2 = V1.alloc (.cells #[.int .i64 5, .int .i64 2] 3) := ⟨_, rfl⟩
  obtain ⟨V4, hV4⟩ : ∃ V4, V4 = V2.alloc (.cells #[.slice (some ⟨w8.heap.size, 0, none⟩) 2 2, .slice (some ⟨w8.heap.size + 1, 0, none⟩) 2 2] 22) := ⟨_, rfl⟩
  rw [← hV1, ← hV2, ← hV4]
  have z1 : V1.heap.size = w8.heap.size + 1 := by rw [hV1]; simp
  have z2 : V2.heap.size = w8.heap.size + 1 + 1 := by rw [hV2]; simp [z1]
  have c1 : Below w8.heap.size w8 V1 := by rw [hV1]; exact alloc_below _ _
  have c2 : Below V1.heap.size V1 V2 := by rw [hV2]; exact alloc_below _ _
  have c4 : Below V2.heap.size V2 V4 := by rw [hV4]; exact alloc_below _ _
  have j1 : IntsS (fun _ => True) V1 (.slice (some ⟨w8.heap.size, 0, none⟩) 2 2) [1, 2] := by rw [hV1]; exact lit2S _ _ _ _ trivial
  have j2 : IntsS (fun _ => True) V2 (.slice (some ⟨w8.heap.size + 1, 0, none⟩) 2 2) [5, 2] := by rw [hV2, ← z1]; exact lit2S _ _ _ _ trivial
  have c84 : Below w8.heap.size w8 V4 := (c1.trans (c2.mono c1.size)).trans (c4.mono (Nat.le_trans c1.size c2.size))
  have hLit : ListAt (fun _ => True) V4 (.slice (some ⟨w8.heap.size + 1 + 1, 0, none⟩) 2 2) [[1, 2], [5, 2]] := by
    refine ⟨_, (by rw [hV4, ← z2]; exact row_lit (S := fun _ => True) (w := V2) (t := 22) [.slice (some ⟨w8.heap.size, 0, none⟩) 2 2, .slice (some ⟨w8.heap.size + 1, 0, none⟩) 2 2] trivial (by simp)), fun j hj => ?_⟩
    match j, hj with
    | 0, _ => exact (j1.later c2).later c4
    | 1, _ => exact j2.later c4
    | j + 2, hj => exact absurd (show j + 2 < 2 from hj) (by omega)
  exact ⟨rsame_any (fun _ => True) V4 _ _ _ _ ((hL8.mono (B' := fun _ => True) (fun _ _ _ => trivial)).later c84) hLit, hB8.trans (c84.mono hB8.size)⟩

set_option maxRecDepth 100000 in
set_option maxHeartbeats 4000000 in
theorem alive_any (w : World) : Calls Try.prog 10 #[] w fun e w' => e = .returned (.bool true) ∧ Below w.heap.size w w' := by
  have hnew := new_T (w.alloc (.cells #[.int .i64 1, .int .i64 0] 3)) _ [1, 0] (lit2 w 1 0) (by decide)
  go_enter Try.func10, Try.ntmps10
  go_wp2_with fail
  refine hnew.mono ?_
  clear hnew
  rintro e w1 ⟨sb, rfl, ⟨hb, hT1, hhb⟩, b1⟩
  have hhb' : w.heap.size ≤ hb := by simp at hhb; omega
  have hB1 : Below w.heap.size w w1 := (alloc_below w _).trans (b1.mono (by simp))
  have i1 := ins2 w.heap.size hb w1 sb 1 2 [] [[1, 2]] true hT1 hhb' hB1.size (by decide) (by decide) (by decide) (by decide)
  have HB1 := hide hB1
  clear hT1 hhb b1 hB1
  go_wp2_with fail
  refine i1.mono ?_
  clear i1
  rintro e w2 ⟨er2, rfl, hT2, b2⟩
  have hB2 := (unhide HB1).trans b2
  have i2 := ins2 w.heap.size hb w2 sb 0 3 [[1, 2]] [[1, 2], [0, 3]] true hT2 hhb' hB2.size (by decide) (by decide) (by decide) (by decide)
  have HB2 := hide hB2
  clear hT2 b2 hB2
  go_wp2_with fail
  refine i2.mono ?_
  clear i2
  rintro e w3 ⟨er3, rfl, hT3, b3⟩
  have hB3 := (unhide HB2).trans b3
  have i3 := ins2 w.heap.size hb w3 sb 5 2 [[1, 2], [0, 3]] [[1, 2], [5, 2], [0, 3]] true hT3 hhb' hB3.size (by decide) (by decide) (by decide) (by decide)
  have HB3 := hide hB3
  clear hT3 b3 hB3
  go_wp2_with fail
  refine i3.mono ?_
  clear i3
  rintro e w4 ⟨er4, rfl, hT4, b4⟩
  have hB4 := (unhide HB3).trans b4
  have i4 := ins2 w.heap.size hb w4 sb 1 2 [[1, 2], [5, 2], [0, 3]] [[1, 2], [5, 2], [0, 3]] false hT4 hhb' hB4.size (by decide) (by decide) (by decide) (by decide)
  have HB4 := hide hB4
  clear hT4 b4 hB4
  go_wp2_with fail
  refine i4.mono ?_
  clear i4
  rintro e w5 ⟨er5, rfl, hT5, b5⟩
  have hB5 := (unhide HB4).trans b5
  have hlen := len_T _ w5 sb hb [1, 0] _ hT5
  have HT5 := hide hT5
  have HB5 := hide hB5
  clear hT5 b5 hB5
  go_wp2_with fail
  refine hlen.mono ?_
  clear hlen
  rintro e w6 ⟨rfl, b6⟩
  have hT6 := (unhide HT5).later b6
  have hB6 := (unhide HB5).trans (b6.mono (unhide HB5).size)
  have hall := all_T _ w6 sb hb [1, 0] _ hT6
  have HT6 := hide hT6
  have HB6 := hide hB6
  clear hT6 hB6 b6
  go_wp2_with fail
  refine hall.mono ?_
  clear hall
  rintro e w7 ⟨lb7, its7, rfl, hg7, he7, hn7, b7⟩
  have hT7 := (unhide HT6).later b7
  have hB7 := (unhide HB6).trans (b7.mono (unhide HB6).size)
  have hl7 := list_G w7 _ lb7 its7 _ _ hg7 eg_all hn7 he7
  have HT7 := hide hT7
  have HB7 := hide hB7
  clear hT7 hB7 b7 hg7 he7 hn7
  go_wp2_with fail
  refine hl7.mono ?_
  clear hl7
  rintro e w8 ⟨rv8, rfl, hL8, b8⟩
  have hT8 := (unhide HT7).later b8
  have hB8 := (unhide HB7).trans (b8.mono (unhide HB7).size)
  obtain ⟨f8, ⟨ra8, rc8, er8, _⟩, _⟩ := id hL8
  subst er8
  obtain ⟨hs8, hT9, hB9⟩ := lit3 w8 _ _ sb hb _ _ hL8 hT8 hB8
  have HT9 := hide hT9
  have HB9 := hide hB9
  clear hT8 hB8 b8 hL8 hT9 hB9
  go_wp2_with fail
  refine hs8.mono ?_
  clear hs8
  rintro e w10 ⟨rfl, b10⟩
  have e10 : sameLB [[1, 2], [5, 2], [0, 3]] [[1, 2], [5, 2], [0, 3]] = true := by decide
  rw [e10]
  have hT10 := (unhide HT9).later b10
  have hB10 := (unhide HB9).trans (b10.mono (unhide HB9).size)
  have b11 := alloc_below w10 (.cells #[.int .i64 9, .int .i64 2] 3)
  have hT11 := hT10.later b11
  have hB11 := hB10.trans (b11.mono hB10.size)
  have hrg := range_T _ _ sb hb [1, 0] [9, 2] 1 _ _ hT11 (lit2 w10 9 2) (by decide) (fun q hq => by have := hT11.lt; show q ≠ hb; omega)
  have HT11 := hide hT11
  have HB11 := hide hB11
  clear hT10 hB10 b10 b11 hT11 hB11 e10
  go_wp2_with fail
  refine hrg.mono ?_
  clear hrg
  rintro e w12 ⟨lb12, its12, rfl, hg12, he12, hn12, b12⟩
  have e12 : [[1, 2], [5, 2], [0, 3]].filter (fun y => headA [1, 0] 1 y [9, 2]) = [[1, 2], [5, 2]] := by decide
  rw [e12] at he12
  have hB12 := (unhide HB11).trans (b12.mono (unhide HB11).size)
  have hl12 := list_G w12 _ lb12 its12 _ _ hg12 eg_range hn12 he12
  have HB12 := hide hB12
  clear hB12 b12 hg12 he12 hn12 e12
  go_wp2_with fail
  refine hl12.mono ?_
  clear hl12
  rintro e w13 ⟨rv13, rfl, hL13, b13⟩
  have hB13 := (unhide HB12).trans (b13.mono (unhide HB12).size)
  obtain ⟨f13, ⟨ra13, rc13, er13, _⟩, _⟩ := id hL13
  subst er13
  obtain ⟨hs13, hB14⟩ := lit22 w13 _ _ _ hL13 hB13
  have HB14 := hide hB14
  clear hB13 b13 hL13 hB14
  go_wp2_with fail
  refine hs13.mono ?_
  clear hs13
  rintro e w15 ⟨rfl, b15⟩
  have e15 : sameLB [[1, 2], [5, 2]] [[1, 2], [5, 2]] = true := by decide
  rw [e15]
  go_wp2_with fail
  go_ret
  exact ⟨rfl, (unhide HB14).trans (b15.mono (unhide HB14).size)⟩
end Go.Proofs.Ytmjlhmhkbfnccaa
