/- TermNobody, walked. -/
import Derived.Test.YtbcljbbdfmeccabDoorNob
namespace Go.Proofs.YtbcljbbdfmeccabDoor
open Go.RowKit

structure NRel (w wr : World) (v : V) : Prop where
  x : CellsAt wr w.heap.size 0 v
  c : wr.cell? ⟨w.heap.size + 1, 0, none⟩ = some (.pointer none)
  r0 : wr.cell? ⟨w.heap.size + 1 + 1, 0, none⟩ = some (.pointer none)
  r1 : wr.cell? ⟨w.heap.size + 1 + 1, 1, none⟩ = some (.pointer (some ⟨w.heap.size + 1, 0, none⟩))
  sz : w.heap.size + 3 ≤ wr.heap.size
  bw : Below w.heap.size w wr
theorem NRel.later {w wr w2 : World} {v : V} (h : NRel w wr v) (hb : Below wr.heap.size wr w2) : NRel w w2 v := by
  have hsz := h.sz
  have hc : ∀ a : Addr, a.block < wr.heap.size → w2.cell? a = wr.cell? a := fun a ha => by simp only [World.cell?]; rw [hb.block _ ha]
  exact ⟨h.x.below hb (by omega), (hc _ (by simp; omega)).trans h.c, (hc _ (by simp; omega)).trans h.r0, (hc _ (by simp; omega)).trans h.r1, Nat.le_trans h.sz hb.size, h.bw.trans (hb.mono (by omega))⟩

theorem nrel_start (w : World) (v : V) : NRel w (((w.alloc v.obj).alloc (.cells #[.pointer none] 48)).alloc (.cells #[.pointer none, .pointer (some ⟨w.heap.size + 1, 0, none⟩)] 23)) v := by
  have b1 := below_box w v.obj
  have s1 : (w.alloc v.obj).heap.size = w.heap.size + 1 := by simp
  have h2 := World.alloc_heap_new (w.alloc v.obj) (.cells #[.pointer none] 48)
  rw [s1] at h2
  have b2 : Below (w.heap.size + 1) (w.alloc v.obj) ((w.alloc v.obj).alloc (.cells #[.pointer none] 48)) := (Below.refl _ _).alloc (by simp) _
  generalize hw2 : (w.alloc v.obj).alloc (.cells #[.pointer none] 48) = w2 at *
  have s2 : w2.heap.size = w.heap.size + 1 + 1 := by rw [← hw2]; simp
  have h3 := World.alloc_heap_new w2 (.cells #[.pointer none, .pointer (some ⟨w.heap.size + 1, 0, none⟩)] 23)
  rw [s2] at h3
  have b3 : Below w2.heap.size w2 (w2.alloc (.cells #[.pointer none, .pointer (some ⟨w.heap.size + 1, 0, none⟩)] 23)) := (Below.refl _ _).alloc (by simp) _
  refine ⟨((boxed w v).below b2 (by omega)).below b3 (by omega), ?_, ?_, ?_, by simp [s2], (b1.trans (b2.mono (by omega))).trans (b3.mono (by omega))⟩
  · have : w2.cell? ⟨w.heap.size + 1, 0, none⟩ = some (.pointer none) := by simp only [World.cell?]; rw [h2]; rfl
    exact (b3.cell (p := ⟨w.heap.size + 1, 0, none⟩) (by show _ < _; simp [s2])).trans this
  · simp only [World.cell?]; rw [h3]; rfl
  · simp only [World.cell?]; rw [h3]; rfl

theorem raw_none (W : World) : Calls Tryd.prog 15 #[V.none.val, V.none.val] W fun e w' => e = .returned (.bool true) ∧ Below W.heap.size W w' := by
  have := raw_any V.none V.none 0 W (none_at _ _) (none_at _ _) (Nat.zero_le _)
  have e : (V.none.ord V.none == 0) = true := by rw [(ord_zero V.none V.none).2 ⟨rfl, rfl, rfl, rfl, fun i hi => absurd hi (Nat.not_lt_zero i)⟩]; rfl
  rw [e] at this
  exact this

open Go.BigFrame in
set_option maxRecDepth 100000 in
set_option maxHeartbeats 4000000 in
theorem nobody_walk (v : V) (kd n : Int) (w : World) (_hv : v.At w.heap.size w) (ht : Tbl w.heap.size w) :
    Calls Tryd.prog 4 #[v.val, .int .i64 kd, .int .i64 n] w fun e w' => e = .returned (.bool true) ∧ Below w.heap.size w w' := by
  go_enter Tryd.func4, Tryd.ntmps4
  go_wp2_with fail
  obtain ⟨W, hW⟩ : ∃ W, W = ((w.alloc v.obj).alloc (.cells #[.pointer none] 48)).alloc (.cells #[.pointer none, .pointer (some ⟨w.heap.size + 1, 0, none⟩)] 23) := ⟨_, rfl⟩
  rw [← hW]
  have hN : NRel w W v := by
    rw [hW]; exact nrel_start w v
  clear hW
  go_loopw [19] (fun i wr => ∃ k : Nat, k ≤ 2 ∧ i = .int .i64 k ∧ Hid (NRel w wr v)) (fun i _ => 2 - (intOf i).toNat)
  case atStart => exact ⟨0, Nat.zero_le _, rfl, hN⟩
  case round =>
    obtain ⟨k, hk, rfl, hN0⟩ := hrel
    have hT := unhide hN0
    by_cases hlt : k < 2
    · obtain ⟨s, hs, hnob⟩ : ∃ s, wr.cell? ⟨w.heap.size + 1 + 1, k, none⟩ = some s ∧ Hid (Nob wr s) := by
        rcases (by omega : k = 0 ∨ k = 1) with rfl | rfl
        · exact ⟨_, hT.r0, .inl rfl⟩
        · exact ⟨_, hT.r1, .inr ⟨_, rfl, hT.c, by have := hT.sz; omega⟩⟩
      obtain ⟨x0, x1, x2, x3⟩ := hT.x.z
      have C1 := hide (nob_put v wr s (unhide hnob))
      clear hT
      go_wp2_with fail
      refine (unhide C1).mono ?_
      rintro e w1 ⟨rfl, b1⟩
      have T1 := (unhide hN0).later b1
      have N1 := hide ((unhide hnob).below b1)
      clear x0 x1 x2 x3 hs C1 b1 hN0 hnob
      obtain ⟨x0, x1, x2, x3⟩ := T1.x.z
      have C1 := hide (nob_get v w1 s (unhide N1))
      have HT1 := hide T1
      clear T1
      go_wp2_with fail
      refine (unhide C1).mono ?_
      rintro e w2 ⟨rfl, b2⟩
      have HT2 := hide ((unhide HT1).later b2)
      have N2 := hide ((unhide N1).below b2)
      clear x0 x1 x2 x3 C1 b2 HT1 N1
      have C1 := hide (nob_back kd n w2 s (unhide N2))
      go_wp2_with fail
      refine (unhide C1).mono ?_
      rintro e w3 ⟨rfl, b3⟩
      have HT3 := hide ((unhide HT2).later b3)
      have N3 := hide ((unhide N2).below b3)
      clear C1 b3 HT2 N2
      go_wp2_with fail
      have b3 := below_box w3 V.none.obj
      refine (raw_none _).mono ?_
      rintro e w4 ⟨rfl, b4⟩
      have b5 : Below w3.heap.size w3 w4 := b3.trans (b4.mono (by simp))
      have HT4 := hide ((unhide HT3).later b5)
      have N4 := hide ((unhide N3).below b5)
      clear b3 b4 b5 HT3 N3
      go_wp2_with fail
      refine (nob_len _ s (unhide N4)).mono ?_
      rintro e w5 ⟨rfl, rfl⟩
      go_wp2_with fail
      go_roundw
      case rel => exact ⟨k + 1, by omega, by go_num, HT4⟩
      case measure => simp [intOf]; omega
    · have hke : k = 2 := by omega
      subst hke
      have HT := hide hT
      clear hT
      have C6 := hide (alive_any w.heap.size wr (unhide HT).bw.size (ht.below (unhide HT).bw))
      go_wp2_with fail
      refine (unhide C6).mono ?_
      rintro e w1 ⟨rfl, b1⟩
      have bw := ((unhide HT).later b1).bw
      clear HT b1 C6
      go_wp2_with fail
      go_ret
      exact ⟨rfl, bw⟩
end Go.Proofs.YtbcljbbdfmeccabDoor
