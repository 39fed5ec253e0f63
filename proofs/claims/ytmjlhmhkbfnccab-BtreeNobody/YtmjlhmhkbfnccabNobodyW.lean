/- BtreeNobody: the walk. -/
import Derived.Test.YtmjlhmhkbfnccabAlive
import Derived.Test.YtmjlhmhkbfnccabNils
namespace Go.Proofs.Ytmjlhmhkbfnccab
open Go.RowKit Go.Shelf

theorem lit1 (w : World) (a : Int) : Ints (w.alloc (.cells #[.int .i64 a] 3)).heap.size (w.alloc (.cells #[.int .i64 a] 3)) (.slice (some ⟨w.heap.size, 0, none⟩) 1 1) [a] := by
  have hn := World.alloc_heap_new w (.cells #[.int .i64 a] 3)
  refine ⟨_, 1, rfl, Nat.le_refl _, by omega, fun j x hj => ⟨w.heap.size, 0, rfl, by simp, ?_⟩⟩
  match j, hj with
  | 0, hj => simp at hj; subst hj; rw [cell_at hn]; rfl
def NRel (w : World) (i : Value) (wr : World) : Prop := ∃ k : Nat, k ≤ 2 ∧ i = .int .i64 k ∧ Below w.heap.size w wr
theorem nil_two (w1 : World) : ∀ k, k < 2 → ∃ p, ((w1.alloc (.cells #[.pointer none] 29)).alloc (.cells #[.pointer none, .pointer (some ⟨w1.heap.size, 0, none⟩)] 23)).cell? ⟨w1.heap.size + 1, k, none⟩ = some (.pointer p) ∧ NilS ((w1.alloc (.cells #[.pointer none] 29)).alloc (.cells #[.pointer none, .pointer (some ⟨w1.heap.size, 0, none⟩)] 23)) p := fun k hk => by
  obtain ⟨V, hV⟩ : ∃ V, V = w1.alloc (.cells #[.pointer none] 29) := ⟨_, rfl⟩
  rw [← hV]
  have z : V.heap.size = w1.heap.size + 1 := by rw [hV]; simp
  have g := World.alloc_heap_new V (.cells #[.pointer none, .pointer (some ⟨w1.heap.size, 0, none⟩)] 23)
  rw [z] at g
  have g0 : V.heap[w1.heap.size]? = some (.cells #[.pointer none] 29 (0, 0)) := by rw [hV]; exact World.alloc_heap_new _ _
  have b := alloc_belowN V (.cells #[.pointer none, .pointer (some ⟨w1.heap.size, 0, none⟩)] 23)
  match k, hk with
  | 0, _ => exact ⟨none, (cell_at g 0).trans rfl, .inl rfl⟩
  | 1, _ => exact ⟨some ⟨w1.heap.size, 0, none⟩, (cell_at g 1).trans rfl, .inr ⟨_, rfl, (b.cell (p := ⟨w1.heap.size, 0, none⟩) (by show w1.heap.size < V.heap.size; omega)).trans ((cell_at g0 0).trans rfl)⟩⟩

set_option maxRecDepth 100000 in
set_option maxHeartbeats 4000000 in
theorem nobody_walk (W : World) (xv : Value) (x : List Int) (k0 : Int) (hx : Ints W.heap.size W xv x) (hn : x.length * 8 ≤ 140737488355328) :
    Calls Try.prog 3 #[xv, .int .i64 k0] W fun e W' => e = .returned (.bool true) ∧ Below W.heap.size W W' := by
  obtain ⟨xa, xc, rfl, _⟩ := id hx
  have hnew := new_T (W.alloc (.cells #[.int .i64 0] 3)) _ [0] (lit1 W 0) (by decide)
  have HX0 := hide hx
  clear hx
  go_enter Try.func3, Try.ntmps3
  go_wp2_with fail
  refine hnew.mono ?_
  clear hnew
  rintro e v1 ⟨sb, rfl, ⟨hb, hT1, _⟩, b1⟩
  have hB1 : Below W.heap.size W v1 := ((Below.refl _ W).alloc (Nat.le_refl _) _).trans (b1.mono (by simp))
  obtain ⟨l, hS, _⟩ := hT1
  have hs0 := hS.s0
  have hslt := hS.slt
  have TWO := hide (nil_two v1)
  obtain ⟨v3, hv3⟩ : ∃ v3, v3 = (v1.alloc (.cells #[.pointer none] 29)).alloc (.cells #[.pointer none, .pointer (some ⟨v1.heap.size, 0, none⟩)] 23) := ⟨_, rfl⟩
  have b13 : Below v1.heap.size v1 v3 := by rw [hv3]; exact ((Below.refl _ v1).alloc (Nat.le_refl _) _).alloc (by simp) _
  have b03 : Below W.heap.size W v3 := hB1.trans (b13.mono hB1.size)
  rw [← hv3] at TWO
  have GOOD : Hid (∀ w', Below v3.heap.size v3 w' → w'.cell? ⟨sb, 0, none⟩ = some (.pointer (some ⟨hb, 0, none⟩))) := fun w' h => ((b13.trans (h.mono b13.size)).cell (p := ⟨sb, 0, none⟩) hslt).trans hs0
  have HX : Hid (∀ w', Below v3.heap.size v3 w' → Ints w'.heap.size w' (.slice xa x.length xc) x) := fun w' h => ((unhide HX0).below (b03.trans (h.mono b03.size)) (Nat.le_refl _)).mono (Nat.le_trans b03.size h.size)
  have HB03 := hide b03
  clear hB1 hS hs0 hslt b1 b13 b03 HX0
  go_wp2_with fail
  rw [← hv3]
  clear hv3
  go_loopw [24] (fun i wr => NRel v3 i wr) (fun i _ => 2 - (intOf i).toNat)
  case atStart => exact ⟨0, Nat.zero_le _, rfl, Below.refl _ _⟩
  case round =>
    obtain ⟨k, hk, rfl, hbr⟩ := hrel
    by_cases hlt : k < 2
    · obtain ⟨p, hc0, hNp⟩ := unhide TWO k hlt
      obtain ⟨w0, hw0⟩ : ∃ w0, w0 = wr := ⟨_, rfl⟩
      rw [← hw0] at hbr ⊢
      have HB0 := hide hbr
      have NIL : Hid (∀ w', Below v3.heap.size v3 w' → NilS w' p) := fun w' h => hNp.later h
      have hlt2 : (k : Int) < 2 := by omega
      have hcr : w0.cell? ⟨v1.heap.size + 1, k, none⟩ = some (.pointer p) := by
        obtain ⟨_, hz, _⟩ := cells_of_cell hc0
        exact (hbr.cell (p := ⟨v1.heap.size + 1, k, none⟩) (lt_heap hz)).trans hc0
      clear hbr hNp hc0 hw0
      have hc := insert_nil w0 p xa x.length xc (unhide NIL w0 (unhide HB0))
      go_wp2_with fail
      refine hc.mono ?_
      clear hc
      rintro e w1 ⟨rfl, bb⟩
      have HB1 := hide ((unhide HB0).trans (bb.mono (unhide HB0).size))
      clear bb
      have hc := merge_nil w1 p (some ⟨sb, 0, none⟩) (fun w' hw => pair_nil1 w' p _ ((unhide NIL w1 (unhide HB1)).later hw))
      go_wp2_with fail
      refine hc.mono ?_
      clear hc
      rintro e w2 ⟨rfl, bb⟩
      have HB2 := hide ((unhide HB1).trans (bb.mono (unhide HB1).size))
      clear bb
      have hc := merge_nil w2 (some ⟨sb, 0, none⟩) p (fun w' hw => pair_nil2 w' sb hb p (unhide GOOD w' ((unhide HB2).trans (hw.mono (unhide HB2).size))) ((unhide NIL w2 (unhide HB2)).later hw))
      go_wp2_with fail
      refine hc.mono ?_
      clear hc
      rintro e w3 ⟨rfl, bb⟩
      have HB3 := hide ((unhide HB2).trans (bb.mono (unhide HB2).size))
      clear bb
      have hc := clear_nil w3 p (unhide NIL w3 (unhide HB3))
      go_wp2_with fail
      refine hc.mono ?_
      clear hc
      rintro e w4 ⟨⟨cv, rfl⟩, bb⟩
      have HB4 := hide ((unhide HB3).trans (bb.mono (unhide HB3).size))
      clear bb
      have hc := has_nil w4 p x _ (unhide NIL w4 (unhide HB4)) (unhide HX w4 (unhide HB4))
      go_wp2_with fail
      refine hc.mono ?_
      clear hc
      rintro e w5 ⟨rfl, bb⟩
      have HB5 := hide ((unhide HB4).trans (bb.mono (unhide HB4).size))
      clear bb
      have hc := len_nil w5 p (unhide NIL w5 (unhide HB5))
      go_wp2_with fail
      refine hc.mono ?_
      clear hc
      rintro e w6 ⟨rfl, bb⟩
      have HB6 := hide ((unhide HB5).trans (bb.mono (unhide HB5).size))
      clear bb
      have hc := order_nil w6 p (unhide NIL w6 (unhide HB6))
      go_wp2_with fail
      refine hc.mono ?_
      clear hc
      rintro e w7 ⟨oa, oc, rfl, bb⟩
      have HB7 := hide ((unhide HB6).trans (bb.mono (unhide HB6).size))
      clear bb
      have hc := swap_nil w7 p (some ⟨sb, 0, none⟩) (pair_nil1 w7 p _ (unhide NIL w7 (unhide HB7)))
      go_wp2_with fail
      refine hc.mono ?_
      clear hc
      rintro e w8 ⟨rfl, bb⟩
      have HB8 := hide ((unhide HB7).trans (bb.mono (unhide HB7).size))
      clear bb
      have hc := swap_nil w8 (some ⟨sb, 0, none⟩) p (pair_nil2 w8 sb hb p (unhide GOOD w8 (unhide HB8)) (unhide NIL w8 (unhide HB8)))
      go_wp2_with fail
      refine hc.mono ?_
      clear hc
      rintro e w9 ⟨rfl, bb⟩
      have HB9 := hide ((unhide HB8).trans (bb.mono (unhide HB8).size))
      clear bb
      have hc := all_nil w9 p (unhide NIL w9 (unhide HB9))
      go_wp2_with fail
      refine hc.mono ?_
      clear hc
      rintro e w10 ⟨lb9, rfl, hg9, bb⟩
      have HB10 := hide ((unhide HB9).trans (bb.mono (unhide HB9).size))
      clear bb
      have hc := list_nil w10 _ lb9 _ hg9 eg_all (fun _ h => h.elim)
      clear hg9
      go_wp2_with fail
      refine hc.mono ?_
      clear hc
      rintro e w11 ⟨ra9, rc9, rfl, bb⟩
      have HB11 := hide ((unhide HB10).trans (bb.mono (unhide HB10).size))
      clear bb
      have hc := range_nil w11 p x k0 _ (unhide NIL w11 (unhide HB11)) (unhide HX w11 (unhide HB11)) hn
      go_wp2_with fail
      refine hc.mono ?_
      clear hc
      rintro e w12 ⟨lb11, rfl, hg11, bb⟩
      have HB12 := hide ((unhide HB11).trans (bb.mono (unhide HB11).size))
      clear bb
      have hc := list_nil w12 _ lb11 _ hg11 eg_range (fun _ h => h)
      clear hg11
      go_wp2_with fail
      refine hc.mono ?_
      clear hc
      rintro e w13 ⟨ra11, rc11, rfl, bb⟩
      have HB13 := hide ((unhide HB12).trans (bb.mono (unhide HB12).size))
      clear bb
      have hc := from_nil w13 p x _ (unhide NIL w13 (unhide HB13)) (unhide HX w13 (unhide HB13)) hn
      go_wp2_with fail
      refine hc.mono ?_
      clear hc
      rintro e w14 ⟨lb13, rfl, hg13, bb⟩
      have HB14 := hide ((unhide HB13).trans (bb.mono (unhide HB13).size))
      clear bb
      have hc := list_nil w14 _ lb13 _ hg13 eg_from (fun _ h => h)
      clear hg13
      go_wp2_with fail
      refine hc.mono ?_
      clear hc
      rintro e w15 ⟨ra13, rc13, rfl, bb⟩
      have HB15 := hide ((unhide HB14).trans (bb.mono (unhide HB14).size))
      clear bb
      go_wp2_with fail
      go_roundw
      case rel => exact ⟨k + 1, by omega, by go_num, unhide HB15⟩
      case measure => simp [intOf]; omega
    · have hk2 : k = 2 := by omega
      subst hk2
      have hal := alive_any wr
      have HBR := hide ((unhide HB03).trans (hbr.mono (unhide HB03).size))
      clear hbr
      go_wp2_with fail
      refine hal.mono ?_
      clear hal
      rintro e v9 ⟨rfl, b9⟩
      go_wp2_with fail
      go_ret
      exact ⟨rfl, (unhide HBR).trans (b9.mono (unhide HBR).size)⟩
end Go.Proofs.Ytmjlhmhkbfnccab
