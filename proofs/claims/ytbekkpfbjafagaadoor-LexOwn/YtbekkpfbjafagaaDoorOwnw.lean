/- Walk of the law that tokens which were answered may be written over. -/
import Derived.Test.YtbekkpfbjafagaaDoorReadsw
namespace Go.Proofs.YtbekkpfbjafagaaDoor
open Go.RowKit

theorem own_store {w wr : World} {B n j : Nat} {v : Value} {xs : List Value} (h : wr.ownsRow B 32 4 v n xs) (hb : Below B w wr) (hj : j < n) :
    ∃ g cap w7 xs', v = .slice (some ⟨g, 0, none⟩) n cap ∧ n ≤ cap ∧ cap ≤ maxLen ∧ (tkStore (.pointer (some ⟨g, j * 4, none⟩)) (.agg #[.int .i64 0, .string ⟨#[]⟩, .int .i64 0, .int .i64 0])).run Tryd.prog wr = .ok () w7 ∧ w7.ownsRow B 32 4 v n xs' ∧ Below B w w7 := by
  rcases h.2 with ⟨_, h0⟩ | ⟨g, cap, cur, rfl, hg, hh, hle, hcm, hcs, ht⟩
  · omega
  · have hrun := run_storeAt_mid (P := Tryd.prog) wr g (j * 4) 32 #[.int .i64 0, .string ⟨#[]⟩, .int .i64 0, .int .i64 0] (fun q hq => ⟨by
      have hq : q < 4 := hq
      rw [Lib.cell_of_heap hh]
      have : j * 4 + q < cur.size := by rw [hcs]; have : j * 4 + 4 ≤ cap * 4 := by omega
                                        omega
      rw [Array.getElem?_eq_getElem this]; rfl, Lib.frozen_of_heap hh _⟩) size_tk (by simp [Value.oneCell'])
    have h1 := heap_setCell_same wr g (j * 4) _ _ (.int .i64 0) hh
    have h2 := heap_setCell_same _ g (j * 4 + 1) _ _ (.string ⟨#[]⟩) h1
    have h3 := heap_setCell_same _ g (j * 4 + 1 + 1) _ _ (.int .i64 0) h2
    have h4 := heap_setCell_same _ g (j * 4 + 1 + 1 + 1) _ _ (.int .i64 0) h3
    refine ⟨g, cap, _, _, rfl, hle, hcm, hrun, ⟨?_, .inr ⟨g, cap, _, rfl, hg, h4, hle, hcm, ?_, rfl⟩⟩, ?_⟩
    · rw [List.length_take, Array.length_toList]
      simp
      rw [hcs]
      have : n * 4 ≤ cap * 4 := by omega
      omega
    · simp [hcs]
    · exact (((hb.setCell (p := ⟨g, j * 4, none⟩) hg _).setCell (p := ⟨g, j * 4 + 1, none⟩) hg _).setCell (p := ⟨g, j * 4 + 1 + 1, none⟩) hg _).setCell (p := ⟨g, j * 4 + 1 + 1 + 1, none⟩) hg _

theorem lex_short (l : Txt) : (lexP l).toks.length ≤ 65536 := by
  have h := lex_ris l
  cases ho : lexP l with
  | ok t =>
    rw [ho] at h
    have h1 := ris_len (Nat.zero_le _) h
    have h2 : l.length ≤ 65536 := by
      unfold lexP at ho
      split at ho
      · cases ho
      · omega
    simp only [Out.toks]; omega
  | bad w a => simp [Out.toks]
def OwRel (w : World) (n : Nat) (v i : Value) (wr : World) : Prop := ∃ (j : Nat) (xs : List Value), i = .int .i64 (j : Int) ∧ j ≤ n ∧ Hid (wr.ownsRow w.heap.size 32 4 v n xs ∧ Below w.heap.size w wr)

attribute [local go_sem ↓] storeAt_tk
set_option maxRecDepth 100000 in
set_option maxHeartbeats 4000000 in
theorem own_walk (s : ByteArray) (hs : s.size ≤ 140737488355328) (w : World) (hE : Env w) : Calls Tryd.prog 8 #[.string s] w fun e w' => e = .returned (.bool true) ∧ Below w.heap.size w w' := by
  have HT := hide (fun (W : World) (h : Below w.heap.size w W) => tokens_all s hs W (hE.later h))
  have HR := hide (fun W => rtokens_all s hs W)
  have HE := hide hE
  clear hE
  have hlen := lex_short s.data.toList
  obtain ⟨toks, ho1⟩ : ∃ t, (lexP s.data.toList).toks = t := ⟨_, rfl⟩
  obtain ⟨why, ho2⟩ : ∃ t, (lexP s.data.toList).why = t := ⟨_, rfl⟩
  obtain ⟨fa, ho3⟩ : ∃ t, (lexP s.data.toList).fa = t := ⟨_, rfl⟩
  unfold TokAns at HT HR
  rw [ho1] at hlen
  simp only [ho1, ho2, ho3] at HR HT
  clear ho1 ho2 ho3
  go_enter Tryd.func8, Tryd.ntmps8
  go_wp2_with fail
  refine (unhide HT w (Below.refl _ _)).mono ?_
  rintro e w0 ⟨v, rfl, hown, b0⟩
  obtain ⟨n, hn⟩ : ∃ n, toks.length = n := ⟨_, rfl⟩
  rw [hn] at hown hlen
  obtain ⟨ao, cap, rfl⟩ : ∃ ao cap, v = .slice ao n cap := by
    rcases hown.2 with ⟨h1, h2⟩ | ⟨g, cap, cur, hv, _⟩
    · exact ⟨none, 0, by rw [h1, h2]⟩
    · exact ⟨_, _, hv⟩
  have HOW := hide (hown.alloc (.cells #[.int .i64 why, .int .i64 fa] 25))
  have HB := hide (b0.alloc b0.size (.cells #[.int .i64 why, .int .i64 fa] 25))
  clear hown b0 hn
  go_wp2_with fail
  obtain ⟨W0, hW0⟩ : ∃ W0, w0.alloc (.cells #[.int .i64 why, .int .i64 fa] 25) = W0 := ⟨_, rfl⟩
  rw [hW0] at HOW HB
  rw [hW0]
  clear hW0
  go_loopw [17] (fun i wr => OwRel w n (.slice ao n cap) i wr) (fun i _ => n - (intOf i).toNat)
  case atStart => exact ⟨0, _, rfl, Nat.zero_le _, hide ⟨unhide HOW, unhide HB⟩⟩
  case round =>
    obtain ⟨j, xs, rfl, hj, HH⟩ := hrel
    by_cases hlt : j < n
    · obtain ⟨g, cap', w7, xs', hv, hc1, hc2, hst, ho7, hb7⟩ := own_store (unhide HH).1 (unhide HH).2 hlt
      injection hv with h1 h2 h3
      subst h1 h3
      unfold maxLen at hc2
      have HN := hide (show w7.ownsRow w.heap.size 32 4 (.slice (some ⟨g, 0, none⟩) n cap) n xs' ∧ Below w.heap.size w w7 from ⟨ho7, hb7⟩)
      clear ho7 hb7 h2
      go_wp2_with fail
      go_roundw
      case rel => exact ⟨j + 1, xs', by go_num, by omega, HN⟩
      case measure => simp [intOf]; omega
    · obtain ⟨i0, hi, hz0, hz1, hz2⟩ := infoT_parts
      have HI := hide (show Tryd.prog.info? 32 = some i0 ∧ i0.zero = some (.agg #[.int .i64 0, .string ⟨#[]⟩, .int .i64 0, .int .i64 0]) ∧ i0.size = 4 ∧ i0.bytes = 40 from ⟨hi, hz0, hz1, hz2⟩)
      have hbs := (unhide HH).2.size
      clear hi hz0 hz1 hz2
      go_wp2_with (at_builtin; refine wpList_append_own _ rfl _ _ 22 rfl w.heap.size 32 i0 (.agg #[.int .i64 0, .string ⟨#[]⟩, .int .i64 0, .int .i64 0]) 4 40 Tryd.underlying22 (unhide HI).1 (unhide HI).2.1 (unhide HI).2.2.1 (unhide HI).2.2.2 rfl (by decide) _ _ _ rfl ((unhide HH).1.alloc _) ⟨_, 0, none⟩ 1 1 [.int .i64 0, .string ⟨#[]⟩, .int .i64 0, .int .i64 0] rfl rfl (tok_cell _ _ _ _ _) (tok_one _ _ _ _) (by unfold maxLen; omega) (by omega) (by simp; omega) ?_; intro v' wa hown' hgrow _)
      have ba := ((unhide HH).2.alloc hbs (.cells #[.int .i64 0, .string ⟨#[]⟩, .int .i64 0, .int .i64 0] 32)).grown hgrow (by simp; omega) (fun g hg => ((unhide HH).1.lt g hg).1)
      have HBA := hide ba
      clear hown' hgrow HH HOW HB
      refine (unhide HT _ ba).mono ?_
      rintro e w1 ⟨v1, rfl, hown1, b1'⟩
      have b1 := ba.trans (b1'.mono ba.size)
      clear b1' ba
      have HS1 := hide (slAt_of hown1)
      have HB1 := hide b1
      clear hown1 b1 HT
      go_wp2_with fail
      refine (unhide HR _).mono ?_
      rintro e w2 ⟨v2, rfl, hown2, b2⟩
      have b2' : Below (w1.heap.size + 1) (w1.alloc (.cells #[.int .i64 why, .int .i64 fa] 25)) w2 := by simpa using b2
      have hbx : w2.heap[w1.heap.size]? = some (.cells #[.int .i64 why, .int .i64 fa] 25) := by rw [b2'.block _ (by omega)]; exact heap_alloc_new w1 _
      have hs2 : w1.heap.size < w2.heap.size := (Array.getElem?_eq_some_iff.1 hbx).1
      have e1 : Below w1.heap.size w1 w2 := ((Below.refl w1.heap.size w1).alloc (Nat.le_refl _) _).trans (b2'.mono (by omega))
      have a2 : Below w2.heap.size w2 (w2.alloc (.cells #[.int .i64 why, .int .i64 fa] 25)) := (Below.refl w2.heap.size w2).alloc (Nat.le_refl _) _
      have S1 := hide (((unhide HS1).later e1).later a2)
      have S2 := hide ((slAt_of hown2).later a2)
      have B2 := hide (((unhide HB1).trans (e1.mono (unhide HB1).size)).trans (a2.mono ((unhide HB1).trans (e1.mono (unhide HB1).size)).size))
      have HBX := hide hbx
      clear b2 b2' hbx e1 a2 hown2 HS1 HB1
      go_wp2_with fail
      refine (same_any true _ _ _ _ _ (unhide S1) (unhide S2) rfl (alike_refl true _)).mono ?_
      rintro e w3 ⟨rfl, b3⟩
      have hb1 : w3.heap[w1.heap.size]? = some (.cells #[.int .i64 why, .int .i64 fa] 25) := by
        rw [b3.block _ (by simp; omega), Lib.alloc_old w2 _ _ hs2]; exact unhide HBX
      have hb2 : w3.heap[w2.heap.size]? = some (.cells #[.int .i64 why, .int .i64 fa] 25) := by
        rw [b3.block _ (by simp)]; exact heap_alloc_new w2 _
      have x0 : w3.cell? ⟨w1.heap.size, 0, none⟩ = some (.int .i64 why) := by rw [Lib.cell_of_heap hb1]; rfl
      have x1 : w3.cell? ⟨w1.heap.size, 1, none⟩ = some (.int .i64 fa) := by rw [Lib.cell_of_heap hb1]; rfl
      have y0 : w3.cell? ⟨w2.heap.size, 0, none⟩ = some (.int .i64 why) := by rw [Lib.cell_of_heap hb2]; rfl
      have y1 : w3.cell? ⟨w2.heap.size, 1, none⟩ = some (.int .i64 fa) := by rw [Lib.cell_of_heap hb2]; rfl
      have b4 := hide ((unhide B2).trans (b3.mono (unhide B2).size))
      have HE3 := hide ((unhide HE).later (unhide b4))
      clear b3 hb1 hb2 S1 S2 B2 HBX
      go_wp2_with fail
      refine (alive_any _ (unhide HE3)).mono ?_
      rintro e w4 ⟨rfl, b7⟩
      go_wp2_with fail
      go_ret
      exact ⟨rfl, (unhide b4).trans (b7.mono (unhide b4).size)⟩
end Go.Proofs.YtbekkpfbjafagaaDoor
