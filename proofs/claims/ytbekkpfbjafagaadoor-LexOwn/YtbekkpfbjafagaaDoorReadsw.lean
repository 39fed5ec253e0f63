/- Walk of the law that any text is read as the document says. -/
import Derived.Test.YtbekkpfbjafagaaDoorLya
import Derived.Test.YtbekkpfbjafagaaDoorHeadsw
namespace Go.Proofs.YtbekkpfbjafagaaDoor
open Go.RowKit

theorem rtokens_all (s : ByteArray) (hs : s.size ≤ 140737488355328) (w : World) : Calls Tryd.prog 10 #[.string s] w fun e w' => TokAns (lexP s.data.toList) w w' e := by
  by_cases h : 65536 < s.size
  · exact rtokens_long s h hs w
  · exact rtokens_any s (by omega) w

set_option maxRecDepth 100000 in
set_option maxHeartbeats 4000000 in
theorem reads_walk (s : ByteArray) (hs : s.size ≤ 140737488355328) (w : World) (hE : Env w) : Calls Tryd.prog 3 #[.string s] w fun e w' => e = .returned (.bool true) ∧ Below w.heap.size w w' := by
  have HT := hide (tokens_all s hs w hE)
  have HR := hide (fun W => rtokens_all s hs W)
  have HE := hide hE
  clear hE
  obtain ⟨toks, ho1⟩ : ∃ t, (lexP s.data.toList).toks = t := ⟨_, rfl⟩
  obtain ⟨why, ho2⟩ : ∃ t, (lexP s.data.toList).why = t := ⟨_, rfl⟩
  obtain ⟨fa, ho3⟩ : ∃ t, (lexP s.data.toList).fa = t := ⟨_, rfl⟩
  unfold TokAns at HT HR
  rw [ho1, ho2, ho3] at HT
  simp only [ho1, ho2, ho3] at HR
  clear ho1 ho2 ho3
  go_enter Tryd.func3, Tryd.ntmps3
  go_wp2_with fail
  refine (unhide HT).mono ?_
  rintro e w1 ⟨v1, rfl, hown1, b1⟩
  have HS1 := hide (slAt_of hown1)
  have HB1 := hide b1
  clear hown1 b1 HT
  go_wp2_with fail
  refine (unhide HR _).mono ?_
  rintro e w2 ⟨v2, rfl, hown2, b2⟩
  have b2' : Below (w1.heap.size + 1) (w1.alloc (.cells #[.int .i64 why, .int .i64 fa] 25)) w2 := by simpa using b2
  have hbx : w2.heap[w1.heap.size]? = some (.cells #[.int .i64 why, .int .i64 fa] 25) := by rw [b2'.block _ (by omega)]; exact heap_alloc_new w1 _
  have hs2 : w1.heap.size < w2.heap.size := (Array.getElem?_eq_some_iff.1 hbx).1
  have e1 : Below w1.heap.size w1 w2 := ((Below.refl w1.heap.size w1).alloc (Nat.le_refl _) _).trans (b2'.mono (by omega))
  have a2 : Below w2.heap.size w2 (w2.alloc (.cells #[.int .i64 why, .int .i64 fa] 25)) := (Below.refl w2.heap.size w2).alloc (Nat.le_refl _) _
  have S1 := hide (((unhide HS1).later e1).later a2)
  have S2 := hide ((slAt_of hown2).later a2)
  have B2 := hide (((unhide HB1).trans (e1.mono (unhide HB1).size)).trans (a2.mono ((unhide HB1).trans (e1.mono (unhide HB1).size)).size))
  have HBX := hide hbx
  clear b2 b2' hbx e1 a2 hown2 HS1 HB1
  go_wp2_with fail
  refine (same_any true _ _ _ _ _ (unhide S1) (unhide S2) rfl (alike_refl true _)).mono ?_
  rintro e w3 ⟨rfl, b3⟩
  have hb1 : w3.heap[w1.heap.size]? = some (.cells #[.int .i64 why, .int .i64 fa] 25) := by
    rw [b3.block _ (by simp; omega), Lib.alloc_old w2 _ _ hs2]; exact unhide HBX
  have hb2 : w3.heap[w2.heap.size]? = some (.cells #[.int .i64 why, .int .i64 fa] 25) := by
    rw [b3.block _ (by simp)]; exact heap_alloc_new w2 _
  have x0 : w3.cell? ⟨w1.heap.size, 0, none⟩ = some (.int .i64 why) := by rw [Lib.cell_of_heap hb1]; rfl
  have x1 : w3.cell? ⟨w1.heap.size, 1, none⟩ = some (.int .i64 fa) := by rw [Lib.cell_of_heap hb1]; rfl
  have y0 : w3.cell? ⟨w2.heap.size, 0, none⟩ = some (.int .i64 why) := by rw [Lib.cell_of_heap hb2]; rfl
  have y1 : w3.cell? ⟨w2.heap.size, 1, none⟩ = some (.int .i64 fa) := by rw [Lib.cell_of_heap hb2]; rfl
  have b4 := hide ((unhide B2).trans (b3.mono (unhide B2).size))
  have HE3 := hide ((unhide HE).later (unhide b4))
  clear b3 hb1 hb2 S1 S2 B2 HBX
  go_wp2_with fail
  refine (alive_any _ (unhide HE3)).mono ?_
  rintro e w4 ⟨rfl, b7⟩
  go_wp2_with fail
  go_ret
  exact ⟨rfl, (unhide b4).trans (b7.mono (unhide b4).size)⟩
end Go.Proofs.YtbekkpfbjafagaaDoor
