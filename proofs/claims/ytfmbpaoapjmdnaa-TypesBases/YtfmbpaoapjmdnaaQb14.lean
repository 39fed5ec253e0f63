/- The document's reader: one, where expr and factor are told. -/
import Derived.Test.YtfmbpaoapjmdnaaQb13
set_option maxRecDepth 100000
set_option maxHeartbeats 32000000
namespace Go.Proofs.Ytfmbpaoapjmdnaa
section
open Go.RowKit Go.Maps
attribute [local go_sem ↓] Qbk Qbw
theorem qone_of {rb g cap d : Nat} {l : List Tok} (hE : ExC 116 rb g cap l d #[.pointer (some ⟨rb, 0, none⟩)]) (hF : ExC 138 rb g cap l d #[.pointer (some ⟨rb, 0, none⟩)]) : ExC 149 rb g cap l d #[.pointer (some ⟨rb, 0, none⟩)] := fun w a i y f h => by
 have b0 : Below w.heap.size w (w.alloc (.cells #[.int .i64 0, .int .i64 0, .string ⟨#[]⟩, .slice none 0 0, .int .i64 0] 126)) := (Below.refl _ w).alloc (Nat.le_refl _) _
 have n0 : (w.alloc (.cells #[.int .i64 0, .int .i64 0, .string ⟨#[]⟩, .slice none 0 0, .int .i64 0] 126)).heap[w.heap.size]? = some (.cells #[.int .i64 0, .int .i64 0, .string ⟨#[]⟩, .slice none 0 0, .int .i64 0] 126 (0, 0)) := heap_alloc_new w _
 have s0 : (w.alloc (.cells #[.int .i64 0, .int .i64 0, .string ⟨#[]⟩, .slice none 0 0, .int .i64 0] 126)).heap.size = w.heap.size + 1 := by simp
 obtain ⟨t, ht⟩ := h.tok
 have hnw := Qak (h.later b0) ht
 unfold tkA at hnw
 have hrl := Qab h.box
 have hgl := h.row.lt
 have HH := hide h
 have HT := hide ht
 have HEX := hide hE
 have HFX := hide hF
 have H0 := hide (Ya b0 (Ya n0 s0))
 clear h ht hE hF b0 n0 s0
 go_enter Try.func149, Try.ntmps149
 go_wp2_with fail
 refine hnw.mono ?_
 clear hnw
 rintro en w1 ⟨rfl, b1⟩
 obtain ⟨b0, n0, s0⟩ := Qa H0
 obtain ⟨W2, hW2⟩ : ∃ W2, W2 = w1.alloc (.cells #[.int .i64 t.kind, str t.text, .int .i64 t.num, .int .i64 (t.at_ : Int)] 54) := ⟨_, rfl⟩
 obtain ⟨W3, hW3⟩ : ∃ W3, W3 = W2.alloc (.cells #[.int .i64 0, .int .i64 0, .string ⟨#[]⟩, .slice none 0 0, .int .i64 (t.at_ : Int)] 126) := ⟨_, rfl⟩
 have hs1 := b1.size
 have s2 : W2.heap.size = w1.heap.size + 1 := by rw [hW2]; simp
 have s3 : W3.heap.size = W2.heap.size + 1 := by rw [hW3]; simp
 have b2 : Below w1.heap.size w1 W2 := by rw [hW2]; exact (Below.refl _ w1).alloc (Nat.le_refl _) _
 have b3 : Below W2.heap.size W2 W3 := by rw [hW3]; exact (Below.refl _ W2).alloc (Nat.le_refl _) _
 have t2 : W2.heap[w1.heap.size]? = some (.cells #[.int .i64 t.kind, str t.text, .int .i64 t.num, .int .i64 (t.at_ : Int)] 54 (0, 0)) := by rw [hW2]; exact heap_alloc_new w1 _
 have t3 : W3.heap[w1.heap.size]? = some (.cells #[.int .i64 t.kind, str t.text, .int .i64 t.num, .int .i64 (t.at_ : Int)] 54 (0, 0)) := (b3.block _ (by omega)).trans t2
 have m3 : W3.heap[W2.heap.size]? = some (.cells #[.int .i64 0, .int .i64 0, .string ⟨#[]⟩, .slice none 0 0, .int .i64 (t.at_ : Int)] 126 (0, 0)) := by rw [hW3]; exact heap_alloc_new W2 _
 have z3 : W3.heap[w.heap.size]? = some (.cells #[.int .i64 0, .int .i64 0, .string ⟨#[]⟩, .slice none 0 0, .int .i64 0] 126 (0, 0)) := ((b3.block _ (by omega)).trans ((b2.block _ (by omega)).trans (b1.block _ (by omega)))).trans n0
 have bw3 : Below w.heap.size w W3 := ((b0.trans (b1.mono (by omega))).trans (b2.mono (by omega))).trans (b3.mono (by omega))
 obtain ⟨y_0, y_1, y_2, y_3, yf⟩ := cl4 t2
 obtain ⟨v_0, v_1, v_2, v_3, vf⟩ := cl4 t3
 have N3 := Qdv W2 (c0 := .int .i64 0) (c1 := .int .i64 0) (c2 := .string ⟨#[]⟩) (c3 := .slice none 0 0) (c4 := .int .i64 (t.at_ : Int)) (by simp [Value.oneCell'])
 rw [← hW3, s2] at N3
 obtain ⟨nt, hnt⟩ : ∃ nt, w1.heap.size = nt := ⟨_, rfl⟩
 obtain ⟨ne, hne⟩ : ∃ ne, w1.heap.size + 1 = ne := ⟨_, rfl⟩
 rw [hnt] at t3
 rw [s2, hne] at m3
 have H3 := hide (Ya ((Qa HH).later bw3) (Ya (Kp.of_below (rb := rb) bw3) (Ya t3 (Ya m3 z3))))
 have HN := hide (show rb < w.heap.size ∧ g < w.heap.size ∧ w.heap.size < nt ∧ nt < ne by omega)
 have HL := hide (show W3.heap.size = ne + 1 by omega)
 have HW := hide (Ya hne hnt)
 rw [hW2] at y_0 y_1 y_2 y_3 N3
 clear yf vf b0 n0 s0 b1 hW2 hW3 hs1 s2 s3 b2 b3 t2 t3 m3 z3 bw3 hnt hne H0
 by_cases k2 : t.kind = 2
 ·
  have gk : (t.kind == 2) = true := beq_iff_eq.2 k2
  have HM := hide ((Qa H3).1.more (Qa HT) (by omega))
  have htk := Qau (Qa H3).1 (Qa HT)
  unfold tkA at htk
  clear k2
  go_wp2_with fail
  rw [(Qa HW).1, (Qa HW).2]
  refine htk.mono ?_
  clear htk
  rintro en w9 ⟨_, a9, i9, y9, f9, rfl, rfl, ⟨ei, ey, hY9⟩, hv, k9⟩
  rw [ei, ey] at hv
  clear ei ey
  have hC : CoY a i y a9 i y := by
   have := Qa HM
   rcases hY9 with ⟨_, _, e⟩ | ⟨e, hn⟩
   · exact ⟨rfl, by omega, fun h => ⟨h, by omega⟩⟩
   · exact ⟨rfl, by omega, fun h => absurd this (hn h)⟩
  have kv := (Qa H3).2.1.trans k9
  have mv := k9.keep (Qa H3).2.2.2.1 (by have := Qa HN; omega)
  have zv := k9.keep (Qa H3).2.2.2.2 (by have := Qa HN; omega)
  clear hY9 k9
  obtain ⟨x_0, x_1, x_2, x_3, x_4, xf⟩ := ex5 mv
  obtain ⟨WX, hWX⟩ : ∃ WX, WX = ((w9.setCell ⟨ne, 0, none⟩ (.int .i64 2)).setCell ⟨ne, 1, none⟩ (.int .i64 t.num)) := ⟨_, rfl⟩
  have mX : WX.heap[ne]? = some (.cells #[.int .i64 2, .int .i64 t.num, .string ⟨#[]⟩, .slice none 0 0, .int .i64 (t.at_ : Int)] 126 (0, 0)) := by rw [hWX]; exact (Qah (Qah mv 0 _) 1 _).trans rfl
  have oX : ∀ q, q ≠ ne → WX.heap[q]? = w9.heap[q]? := fun q hq => by rw [hWX, hpS hq, hpS hq]
  have sX : WX.heap.size = w9.heap.size := by rw [hWX]; simp
  obtain ⟨e1, e2, e3, e4⟩ := Qa HN
  have zX := (oX w.heap.size (by omega)).trans zv
  have L5 := Qcf mX
  have S5 := Qbc (new := #[.int .i64 2, .int .i64 t.num, .string ⟨#[]⟩, .slice none 0 0, .int .i64 (t.at_ : Int)]) zX rfl rfl (by simp [Value.oneCell'])
  obtain ⟨w6, hw6⟩ : ∃ w6, w6 = WX.setRow w.heap.size #[.int .i64 2, .int .i64 t.num, .string ⟨#[]⟩, .slice none 0 0, .int .i64 (t.at_ : Int)] := ⟨_, rfl⟩
  rw [← hw6] at S5
  have o6 : ∀ q, q ≠ w.heap.size → w6.heap[q]? = WX.heap[q]? := fun q hq => by rw [hw6]; exact setRow_other _ _ _ _ hq
  have s6 : w6.heap.size = WX.heap.size := by rw [hw6, size_setRow]
  have z6 : w6.heap[w.heap.size]? = some (.cells #[.int .i64 2, .int .i64 t.num, .string ⟨#[]⟩, .slice none 0 0, .int .i64 (t.at_ : Int)] 126 (0, 0)) := by rw [hw6]; exact setRow_heap _ _ _ _ _ _ zX
  have h6 := hv.move (w' := w6) (by omega) ((o6 rb (by omega)).trans (oX rb (by omega))) ((o6 g (by omega)).trans (oX g (by omega)))
  have k6 : Kp rb w w6 := ⟨by rw [hw6, hWX]; exact kv.os, by rw [hw6, hWX]; exact kv.tape, by rw [hw6, hWX]; exact kv.output, by rw [s6, sX]; exact kv.size, fun q hq hn => ((o6 q (by omega)).trans (oX q (by omega))).trans (kv.block q hq hn)⟩
  have hx6 : ExS (fun b => w.heap.size ≤ b) w6 [.int .i64 2, .int .i64 t.num, .string ⟨#[]⟩, .slice none 0 0, .int .i64 (t.at_ : Int)] (.mk 2 t.num [] [] (t.at_ : Int)) := Qbu _ _ _ _ _ _
  have HF := hide (Ya h6 (Ya k6 (Ya z6 (Ya hx6 (hC)))))
  clear hv kv mv zv mX oX sX e1 e2 e3 e4 zX hw6 o6 s6 z6 h6 k6 hx6 hC
  subst hWX
  go_wp2_with fail
  rename_i hK
  refine hK _ _ ?_
  clear hK
  go_wp2_with fail
  obtain ⟨h6, k6, z6, hx6, hY6⟩ := Qa HF
  obtain ⟨z_0, z_1, z_2, z_3, z_4, zf⟩ := ex5 z6
  refine bodyPost_ret (v := .agg #[.int .i64 2, .int .i64 t.num, .string ⟨#[]⟩, .slice none 0 0, .int .i64 (t.at_ : Int)]) (by simp [results, Try.results149, go_sem, z_0, z_1, z_2, z_3, z_4]) rfl ?_
  exact ⟨_, _, _, _, _, rfl, ⟨(.mk 2 t.num [] [] (t.at_ : Int)), _, rfl, ⟨_, _, _, rfl⟩, hx6⟩, hY6, h6, k6⟩
 have gk2 : (t.kind == 2) = false := beq_eq_false_iff_ne.2 k2
 by_cases k3 : t.kind = 3
 ·
  have gk : (t.kind == 3) = true := beq_iff_eq.2 k3
  have HM := hide ((Qa H3).1.more (Qa HT) (by omega))
  have htk := Qau (Qa H3).1 (Qa HT)
  unfold tkA at htk
  clear k2 k3
  go_wp2_with fail
  rw [(Qa HW).1, (Qa HW).2]
  refine htk.mono ?_
  clear htk
  rintro en w9 ⟨_, a9, i9, y9, f9, rfl, rfl, ⟨ei, ey, hY9⟩, hv, k9⟩
  rw [ei, ey] at hv
  clear ei ey
  have hC : CoY a i y a9 i y := by
   have := Qa HM
   rcases hY9 with ⟨_, _, e⟩ | ⟨e, hn⟩
   · exact ⟨rfl, by omega, fun h => ⟨h, by omega⟩⟩
   · exact ⟨rfl, by omega, fun h => absurd this (hn h)⟩
  have kv := (Qa H3).2.1.trans k9
  have mv := k9.keep (Qa H3).2.2.2.1 (by have := Qa HN; omega)
  have zv := k9.keep (Qa H3).2.2.2.2 (by have := Qa HN; omega)
  clear hY9 k9
  obtain ⟨x_0, x_1, x_2, x_3, x_4, xf⟩ := ex5 mv
  obtain ⟨WX, hWX⟩ : ∃ WX, WX = ((w9.setCell ⟨ne, 0, none⟩ (.int .i64 3)).setCell ⟨ne, 2, none⟩ (str t.text)) := ⟨_, rfl⟩
  have mX : WX.heap[ne]? = some (.cells #[.int .i64 3, .int .i64 0, str t.text, .slice none 0 0, .int .i64 (t.at_ : Int)] 126 (0, 0)) := by rw [hWX]; exact (Qah (Qah mv 0 _) 2 _).trans rfl
  have oX : ∀ q, q ≠ ne → WX.heap[q]? = w9.heap[q]? := fun q hq => by rw [hWX, hpS hq, hpS hq]
  have sX : WX.heap.size = w9.heap.size := by rw [hWX]; simp
  obtain ⟨e1, e2, e3, e4⟩ := Qa HN
  have zX := (oX w.heap.size (by omega)).trans zv
  have L5 := Qcf mX
  have S5 := Qbc (new := #[.int .i64 3, .int .i64 0, str t.text, .slice none 0 0, .int .i64 (t.at_ : Int)]) zX rfl rfl (by simp [Value.oneCell', str])
  obtain ⟨w6, hw6⟩ : ∃ w6, w6 = WX.setRow w.heap.size #[.int .i64 3, .int .i64 0, str t.text, .slice none 0 0, .int .i64 (t.at_ : Int)] := ⟨_, rfl⟩
  rw [← hw6] at S5
  have o6 : ∀ q, q ≠ w.heap.size → w6.heap[q]? = WX.heap[q]? := fun q hq => by rw [hw6]; exact setRow_other _ _ _ _ hq
  have s6 : w6.heap.size = WX.heap.size := by rw [hw6, size_setRow]
  have z6 : w6.heap[w.heap.size]? = some (.cells #[.int .i64 3, .int .i64 0, str t.text, .slice none 0 0, .int .i64 (t.at_ : Int)] 126 (0, 0)) := by rw [hw6]; exact setRow_heap _ _ _ _ _ _ zX
  have h6 := hv.move (w' := w6) (by omega) ((o6 rb (by omega)).trans (oX rb (by omega))) ((o6 g (by omega)).trans (oX g (by omega)))
  have k6 : Kp rb w w6 := ⟨by rw [hw6, hWX]; exact kv.os, by rw [hw6, hWX]; exact kv.tape, by rw [hw6, hWX]; exact kv.output, by rw [s6, sX]; exact kv.size, fun q hq hn => ((o6 q (by omega)).trans (oX q (by omega))).trans (kv.block q hq hn)⟩
  have hx6 : ExS (fun b => w.heap.size ≤ b) w6 [.int .i64 3, .int .i64 0, str t.text, .slice none 0 0, .int .i64 (t.at_ : Int)] (.mk 3 0 t.text [] (t.at_ : Int)) := Qbu _ _ _ _ _ _
  have HF := hide (Ya h6 (Ya k6 (Ya z6 (Ya hx6 (hC)))))
  clear hv kv mv zv mX oX sX e1 e2 e3 e4 zX hw6 o6 s6 z6 h6 k6 hx6 hC
  subst hWX
  go_wp2_with fail
  rename_i hK
  refine hK _ _ ?_
  clear hK
  go_wp2_with fail
  obtain ⟨h6, k6, z6, hx6, hY6⟩ := Qa HF
  obtain ⟨z_0, z_1, z_2, z_3, z_4, zf⟩ := ex5 z6
  refine bodyPost_ret (v := .agg #[.int .i64 3, .int .i64 0, str t.text, .slice none 0 0, .int .i64 (t.at_ : Int)]) (by simp [results, Try.results149, go_sem, z_0, z_1, z_2, z_3, z_4]) rfl ?_
  exact ⟨_, _, _, _, _, rfl, ⟨(.mk 3 0 t.text [] (t.at_ : Int)), _, rfl, ⟨_, _, _, rfl⟩, hx6⟩, hY6, h6, k6⟩
 have gk3 : (t.kind == 3) = false := beq_eq_false_iff_ne.2 k3
 by_cases k1 : t.kind = 1
 ·
  have gk1 : (t.kind == 1) = true := beq_iff_eq.2 k1
  by_cases ku : t.text = [95]
  ·
   have gu : (t.text == [95]) = true := by simpa using ku
   have HM := hide ((Qa H3).1.more (Qa HT) (by omega))
   have htk := Qau (Qa H3).1 (Qa HT)
   unfold tkA at htk
   clear k2 k3 k1 ku
   go_wp2_with fail
   rw [(Qa HW).1, (Qa HW).2]
   refine htk.mono ?_
   clear htk
   rintro en w9 ⟨_, a9, i9, y9, f9, rfl, rfl, ⟨ei, ey, hY9⟩, hv, k9⟩
   rw [ei, ey] at hv
   clear ei ey
   have hC : CoY a i y a9 i y := by
    have := Qa HM
    rcases hY9 with ⟨_, _, e⟩ | ⟨e, hn⟩
    · exact ⟨rfl, by omega, fun h => ⟨h, by omega⟩⟩
    · exact ⟨rfl, by omega, fun h => absurd this (hn h)⟩
   have kv := (Qa H3).2.1.trans k9
   have mv := k9.keep (Qa H3).2.2.2.1 (by have := Qa HN; omega)
   have zv := k9.keep (Qa H3).2.2.2.2 (by have := Qa HN; omega)
   clear hY9 k9
   obtain ⟨x_0, x_1, x_2, x_3, x_4, xf⟩ := ex5 mv
   obtain ⟨WX, hWX⟩ : ∃ WX, WX = (w9.setCell ⟨ne, 0, none⟩ (.int .i64 4)) := ⟨_, rfl⟩
   have mX : WX.heap[ne]? = some (.cells #[.int .i64 4, .int .i64 0, .string ⟨#[]⟩, .slice none 0 0, .int .i64 (t.at_ : Int)] 126 (0, 0)) := by rw [hWX]; exact (Qah mv 0 _).trans rfl
   have oX : ∀ q, q ≠ ne → WX.heap[q]? = w9.heap[q]? := fun q hq => by rw [hWX, hpS hq]
   have sX : WX.heap.size = w9.heap.size := by rw [hWX]; simp
   obtain ⟨e1, e2, e3, e4⟩ := Qa HN
   have zX := (oX w.heap.size (by omega)).trans zv
   have L5 := Qcf mX
   have S5 := Qbc (new := #[.int .i64 4, .int .i64 0, .string ⟨#[]⟩, .slice none 0 0, .int .i64 (t.at_ : Int)]) zX rfl rfl (by simp [Value.oneCell'])
   obtain ⟨w6, hw6⟩ : ∃ w6, w6 = WX.setRow w.heap.size #[.int .i64 4, .int .i64 0, .string ⟨#[]⟩, .slice none 0 0, .int .i64 (t.at_ : Int)] := ⟨_, rfl⟩
   rw [← hw6] at S5
   have o6 : ∀ q, q ≠ w.heap.size → w6.heap[q]? = WX.heap[q]? := fun q hq => by rw [hw6]; exact setRow_other _ _ _ _ hq
   have s6 : w6.heap.size = WX.heap.size := by rw [hw6, size_setRow]
   have z6 : w6.heap[w.heap.size]? = some (.cells #[.int .i64 4, .int .i64 0, .string ⟨#[]⟩, .slice none 0 0, .int .i64 (t.at_ : Int)] 126 (0, 0)) := by rw [hw6]; exact setRow_heap _ _ _ _ _ _ zX
   have h6 := hv.move (w' := w6) (by omega) ((o6 rb (by omega)).trans (oX rb (by omega))) ((o6 g (by omega)).trans (oX g (by omega)))
   have k6 : Kp rb w w6 := ⟨by rw [hw6, hWX]; exact kv.os, by rw [hw6, hWX]; exact kv.tape, by rw [hw6, hWX]; exact kv.output, by rw [s6, sX]; exact kv.size, fun q hq hn => ((o6 q (by omega)).trans (oX q (by omega))).trans (kv.block q hq hn)⟩
   have hx6 : ExS (fun b => w.heap.size ≤ b) w6 [.int .i64 4, .int .i64 0, .string ⟨#[]⟩, .slice none 0 0, .int .i64 (t.at_ : Int)] (.mk 4 0 [] [] (t.at_ : Int)) := Qbu _ _ _ _ _ _
   have HF := hide (Ya h6 (Ya k6 (Ya z6 (Ya hx6 (hC)))))
   clear hv kv mv zv mX oX sX e1 e2 e3 e4 zX hw6 o6 s6 z6 h6 k6 hx6 hC
   subst hWX
   go_wp2_with fail
   obtain ⟨h6, k6, z6, hx6, hY6⟩ := Qa HF
   obtain ⟨z_0, z_1, z_2, z_3, z_4, zf⟩ := ex5 z6
   refine bodyPost_ret (v := .agg #[.int .i64 4, .int .i64 0, .string ⟨#[]⟩, .slice none 0 0, .int .i64 (t.at_ : Int)]) (by simp [results, Try.results149, go_sem, z_0, z_1, z_2, z_3, z_4]) rfl ?_
   exact ⟨_, _, _, _, _, rfl, ⟨(.mk 4 0 [] [] (t.at_ : Int)), _, rfl, ⟨_, _, _, rfl⟩, hx6⟩, hY6, h6, k6⟩
  have gu : (t.text == [95]) = false := by simpa using ku
  have hwd := Qbz (Qa H3).1
  clear k2 k3 k1 ku
  go_wp2_with fail
  rw [(Qa HW).1, (Qa HW).2]
  refine hwd.mono ?_
  clear hwd
  rintro en w9 ⟨_, a9, i9, y9, f9, rfl, ⟨x9, rfl⟩, ⟨ei, ha9, hy9⟩, hv, k9⟩
  rw [ei] at hv
  clear ei
  have hC : CoY a i y a9 i y9 := ⟨rfl, ha9, hy9⟩
  have kv := (Qa H3).2.1.trans k9
  have mv := k9.keep (Qa H3).2.2.2.1 (by have := Qa HN; omega)
  have zv := k9.keep (Qa H3).2.2.2.2 (by have := Qa HN; omega)
  clear ha9 hy9 k9
  obtain ⟨x_0, x_1, x_2, x_3, x_4, xf⟩ := ex5 mv
  obtain ⟨WX, hWX⟩ : ∃ WX, WX = ((w9.setCell ⟨ne, 0, none⟩ (.int .i64 1)).setCell ⟨ne, 2, none⟩ (str x9)) := ⟨_, rfl⟩
  have mX : WX.heap[ne]? = some (.cells #[.int .i64 1, .int .i64 0, str x9, .slice none 0 0, .int .i64 (t.at_ : Int)] 126 (0, 0)) := by rw [hWX]; exact (Qah (Qah mv 0 _) 2 _).trans rfl
  have oX : ∀ q, q ≠ ne → WX.heap[q]? = w9.heap[q]? := fun q hq => by rw [hWX, hpS hq, hpS hq]
  have sX : WX.heap.size = w9.heap.size := by rw [hWX]; simp
  obtain ⟨e1, e2, e3, e4⟩ := Qa HN
  have zX := (oX w.heap.size (by omega)).trans zv
  have L5 := Qcf mX
  have S5 := Qbc (new := #[.int .i64 1, .int .i64 0, str x9, .slice none 0 0, .int .i64 (t.at_ : Int)]) zX rfl rfl (by simp [Value.oneCell', str])
  obtain ⟨w6, hw6⟩ : ∃ w6, w6 = WX.setRow w.heap.size #[.int .i64 1, .int .i64 0, str x9, .slice none 0 0, .int .i64 (t.at_ : Int)] := ⟨_, rfl⟩
  rw [← hw6] at S5
  have o6 : ∀ q, q ≠ w.heap.size → w6.heap[q]? = WX.heap[q]? := fun q hq => by rw [hw6]; exact setRow_other _ _ _ _ hq
  have s6 : w6.heap.size = WX.heap.size := by rw [hw6, size_setRow]
  have z6 : w6.heap[w.heap.size]? = some (.cells #[.int .i64 1, .int .i64 0, str x9, .slice none 0 0, .int .i64 (t.at_ : Int)] 126 (0, 0)) := by rw [hw6]; exact setRow_heap _ _ _ _ _ _ zX
  have h6 := hv.move (w' := w6) (by omega) ((o6 rb (by omega)).trans (oX rb (by omega))) ((o6 g (by omega)).trans (oX g (by omega)))
  have k6 : Kp rb w w6 := ⟨by rw [hw6, hWX]; exact kv.os, by rw [hw6, hWX]; exact kv.tape, by rw [hw6, hWX]; exact kv.output, by rw [s6, sX]; exact kv.size, fun q hq hn => ((o6 q (by omega)).trans (oX q (by omega))).trans (kv.block q hq hn)⟩
  have hx6 : ExS (fun b => w.heap.size ≤ b) w6 [.int .i64 1, .int .i64 0, str x9, .slice none 0 0, .int .i64 (t.at_ : Int)] (.mk 1 0 x9 [] (t.at_ : Int)) := Qbu _ _ _ _ _ _
  have HF := hide (Ya h6 (Ya k6 (Ya z6 (Ya hx6 (hC)))))
  clear hv kv mv zv mX oX sX e1 e2 e3 e4 zX hw6 o6 s6 z6 h6 k6 hx6 hC
  subst hWX
  go_wp2_with fail
  obtain ⟨h6, k6, z6, hx6, hY6⟩ := Qa HF
  obtain ⟨z_0, z_1, z_2, z_3, z_4, zf⟩ := ex5 z6
  refine bodyPost_ret (v := .agg #[.int .i64 1, .int .i64 0, str x9, .slice none 0 0, .int .i64 (t.at_ : Int)]) (by simp [results, Try.results149, go_sem, z_0, z_1, z_2, z_3, z_4]) rfl ?_
  exact ⟨_, _, _, _, _, rfl, ⟨(.mk 1 0 x9 [] (t.at_ : Int)), _, rfl, ⟨_, _, _, rfl⟩, hx6⟩, hY6, h6, k6⟩
 have gk1 : (t.kind == 1) = false := beq_eq_false_iff_ne.2 k1
 clear k1 k2 k3
 have hmy := Qb (Qa H3).1 ⟨#[45]⟩
 go_wp2_with fail
 rw [(Qa HW).1, (Qa HW).2]
 refine hmy.mono ?_
 clear hmy
 rintro en w4 ⟨b, a4, f4, rfl, hb1, hb0, h4, k4⟩
 have hm4 := Qa HN
 have H4 := hide (Ya h4 (Ya ((Qa H3).2.1.trans k4) (Ya (k4.keep (Qa H3).2.2.1 (by omega)) (Ya (k4.keep (Qa H3).2.2.2.1 (by omega)) (k4.keep (Qa H3).2.2.2.2 (by omega))))))
 have HA4 := hide (show a ≤ a4 by
  have hp : a ≤ a := Nat.le_refl _
  cases b with
  | true => have := (hb1 rfl).2; omega
  | false => have := hb0 rfl; omega)
 have HL4 := hide (show ne < w4.heap.size from Qab (Qa H4).2.2.2.1)
 clear hb1 hb0 h4 k4 hm4
 cases b
 ·
  have hmy := Qb (Qa H4).1 ⟨#[40]⟩
  go_wp2_with fail
  refine hmy.mono ?_
  clear hmy
  rintro en w5 ⟨b, a5, f5, rfl, hb1, hb0, h5, k5⟩
  have hm5 := Qa HN
  have H5 := hide (Ya h5 (Ya ((Qa H4).2.1.trans k5) (Ya (k5.keep (Qa H4).2.2.1 (by omega)) (Ya (k5.keep (Qa H4).2.2.2.1 (by omega)) (k5.keep (Qa H4).2.2.2.2 (by omega))))))
  have HA5 := hide (show a ≤ a5 by
   have hp : a ≤ a4 := Qa HA4
   cases b with
   | true => have := (hb1 rfl).2; omega
   | false => have := hb0 rfl; omega)
  have HL5 := hide (show ne < w5.heap.size from Qab (Qa H5).2.2.2.1)
  clear hb1 hb0 h5 k5 hm5
  cases b
  ·
   have hmy := Qb (Qa H5).1 ⟨#[36]⟩
   go_wp2_with fail
   refine hmy.mono ?_
   clear hmy
   rintro en w6 ⟨b, a6, f6, rfl, hb1, hb0, h6, k6⟩
   have hm6 := Qa HN
   have H6 := hide (Ya h6 (Ya ((Qa H5).2.1.trans k6) (Ya (k6.keep (Qa H5).2.2.1 (by omega)) (Ya (k6.keep (Qa H5).2.2.2.1 (by omega)) (k6.keep (Qa H5).2.2.2.2 (by omega))))))
   have HA6 := hide (show a ≤ a6 by
    have hp : a ≤ a5 := Qa HA5
    cases b with
    | true => have := (hb1 rfl).2; omega
    | false => have := hb0 rfl; omega)
   have HL6 := hide (show ne < w6.heap.size from Qab (Qa H6).2.2.2.1)
   clear hb1 hb0 h6 k6 hm6
   cases b
   ·
    have hfl := Qax (Qa H6).1 (why := 10) (by decide)
    go_wp2_with fail
    refine hfl.mono ?_
    clear hfl
    rintro en w9 ⟨_, a9, i9, y9, f9, rfl, rfl, ⟨ea, ei, hY9⟩, hv, k9⟩
    rw [ea, ei] at hv
    clear ea ei
    have hC : CoY a i y a6 i y9 := ⟨rfl, Qa HA6, fun e => absurd e hY9⟩
    have kv := (Qa H6).2.1.trans k9
    have mv := k9.keep (Qa H6).2.2.2.1 (by have := Qa HN; omega)
    have zv := k9.keep (Qa H6).2.2.2.2 (by have := Qa HN; omega)
    clear hY9 k9
    obtain ⟨x_0, x_1, x_2, x_3, x_4, xf⟩ := ex5 mv
    obtain ⟨WX, hWX⟩ : ∃ WX, WX = w9 := ⟨_, rfl⟩
    have mX : WX.heap[ne]? = some (.cells #[.int .i64 0, .int .i64 0, .string ⟨#[]⟩, .slice none 0 0, .int .i64 (t.at_ : Int)] 126 (0, 0)) := by rw [hWX]; exact mv
    have oX : ∀ q, q ≠ ne → WX.heap[q]? = w9.heap[q]? := fun q _ => by rw [hWX]
    have sX : WX.heap.size = w9.heap.size := by rw [hWX]
    obtain ⟨e1, e2, e3, e4⟩ := Qa HN
    have zX := (oX w.heap.size (by omega)).trans zv
    have L5 := Qcf mX
    have S5 := Qbc (new := #[.int .i64 0, .int .i64 0, .string ⟨#[]⟩, .slice none 0 0, .int .i64 (t.at_ : Int)]) zX rfl rfl (by simp [Value.oneCell'])
    obtain ⟨w6, hw6⟩ : ∃ w6, w6 = WX.setRow w.heap.size #[.int .i64 0, .int .i64 0, .string ⟨#[]⟩, .slice none 0 0, .int .i64 (t.at_ : Int)] := ⟨_, rfl⟩
    rw [← hw6] at S5
    have o6 : ∀ q, q ≠ w.heap.size → w6.heap[q]? = WX.heap[q]? := fun q hq => by rw [hw6]; exact setRow_other _ _ _ _ hq
    have s6 : w6.heap.size = WX.heap.size := by rw [hw6, size_setRow]
    have z6 : w6.heap[w.heap.size]? = some (.cells #[.int .i64 0, .int .i64 0, .string ⟨#[]⟩, .slice none 0 0, .int .i64 (t.at_ : Int)] 126 (0, 0)) := by rw [hw6]; exact setRow_heap _ _ _ _ _ _ zX
    have h6 := hv.move (w' := w6) (by omega) ((o6 rb (by omega)).trans (oX rb (by omega))) ((o6 g (by omega)).trans (oX g (by omega)))
    have k6 : Kp rb w w6 := ⟨by rw [hw6, hWX]; exact kv.os, by rw [hw6, hWX]; exact kv.tape, by rw [hw6, hWX]; exact kv.output, by rw [s6, sX]; exact kv.size, fun q hq hn => ((o6 q (by omega)).trans (oX q (by omega))).trans (kv.block q hq hn)⟩
    have hx6 : ExS (fun b => w.heap.size ≤ b) w6 [.int .i64 0, .int .i64 0, .string ⟨#[]⟩, .slice none 0 0, .int .i64 (t.at_ : Int)] (.mk 0 0 [] [] (t.at_ : Int)) := Qbu _ _ _ _ _ _
    have HF := hide (Ya h6 (Ya k6 (Ya z6 (Ya hx6 (hC)))))
    clear hv kv mv zv mX oX sX e1 e2 e3 e4 zX hw6 o6 s6 z6 h6 k6 hx6 hC
    subst hWX
    go_wp2_with fail
    obtain ⟨h6, k6, z6, hx6, hY6⟩ := Qa HF
    obtain ⟨z_0, z_1, z_2, z_3, z_4, zf⟩ := ex5 z6
    refine bodyPost_ret (v := .agg #[.int .i64 0, .int .i64 0, .string ⟨#[]⟩, .slice none 0 0, .int .i64 (t.at_ : Int)]) (by simp [results, Try.results149, go_sem, z_0, z_1, z_2, z_3, z_4]) rfl ?_
    exact ⟨_, _, _, _, _, rfl, ⟨(.mk 0 0 [] [] (t.at_ : Int)), _, rfl, ⟨_, _, _, rfl⟩, hx6⟩, hY6, h6, k6⟩
   have hwd := Qbz (Qa H6).1
   go_wp2_with fail
   refine hwd.mono ?_
   clear hwd
   rintro en w8 ⟨_, a8, i8, y8, f8, rfl, ⟨x8, rfl⟩, ⟨ei, ha8, hy8⟩, h8, k8⟩
   rw [ei] at h8
   clear ei
   have hm8 := Qa HN
   have m8 := k8.keep (Qa H6).2.2.2.1 (by omega)
   have z8 := k8.keep (Qa H6).2.2.2.2 (by omega)
   have kw8 := (Qa H6).2.1.trans k8
   obtain ⟨x_0, x_1, x_2, x_3, x_4, xf⟩ := ex5 m8
   obtain ⟨WY, hWY⟩ : ∃ WY, WY = (w8.setCell ⟨ne, 0, none⟩ (.int .i64 6)).setCell ⟨ne, 2, none⟩ (str x8) := ⟨_, rfl⟩
   have mY : WY.heap[ne]? = some (.cells #[.int .i64 6, .int .i64 0, str x8, .slice none 0 0, .int .i64 (t.at_ : Int)] 126 (0, 0)) := by rw [hWY]; exact (Qah (Qah m8 0 _) 2 _).trans rfl
   have oY : ∀ q, q ≠ ne → WY.heap[q]? = w8.heap[q]? := fun q hq => by rw [hWY, hpS hq, hpS hq]
   have sY : WY.heap.size = w8.heap.size := by rw [hWY]; simp
   have hs8 := k8.size
   have hlm := Qab m8
   have hYr := h8.move (w' := WY) (by omega) (oY rb (by omega)) (oY g (by omega))
   have kY : Kp rb w WY := ⟨by rw [hWY]; exact kw8.os, by rw [hWY]; exact kw8.tape, by rw [hWY]; exact kw8.output, by rw [sY]; exact kw8.size, fun q hq hn => (oY q (by omega)).trans (kw8.block q hq hn)⟩
   have hes := Qir hYr (Qa HEX)
   have HY8 := hide (Ya kY (Ya mY (Ya ((oY _ (by omega)).trans z8) (Ya ha8 (Ya hy8 (show ne < WY.heap.size by omega))))))
   have HWY := hide hWY
   clear h8 k8 hm8 m8 z8 kw8 hWY mY oY sY hYr kY ha8 hy8 hs8 hlm
   go_wp2_with fail
   rw [← Qa HWY]
   clear HWY x_0 x_1 x_2 x_3 x_4 xf
   refine hes.mono ?_
   clear hes
   rintro en w9 ⟨_, a9, i9, y9, f9, rfl, ⟨ks, hks⟩, ⟨ei, ha9, hy9⟩, hv, k9⟩
   rw [ei] at hv
   clear ei
   obtain ⟨ka, kc, rfl⟩ := hks.sl
   obtain ⟨kY, mY, zY, ha8, hy8, hlY⟩ := Qa HY8
   have hm9 := Qa HN
   have kv := kY.trans k9
   have mv := k9.keep mY (by omega)
   have zv := k9.keep zY (by omega)
   have hC : CoY a i y a9 i y9 := ⟨rfl, by have := Qa HA6; omega, fun e => ⟨(hy8 (hy9 e).1).1, by have := (hy8 (hy9 e).1).2; have := Qa HA6; omega⟩⟩
   have hKS := hide (Ya hks hlY)
   clear hks kY mY zY ha8 hy8 hlY hm9 ha9 hy9 k9
   obtain ⟨x_0, x_1, x_2, x_3, x_4, xf⟩ := ex5 mv
   obtain ⟨WX, hWX⟩ : ∃ WX, WX = (w9.setCell ⟨ne, 3, none⟩ (.slice ka ks.length kc)) := ⟨_, rfl⟩
   have mX : WX.heap[ne]? = some (.cells #[.int .i64 6, .int .i64 0, str x8, .slice ka ks.length kc, .int .i64 (t.at_ : Int)] 126 (0, 0)) := by rw [hWX]; exact (Qah mv 3 _).trans rfl
   have oX : ∀ q, q ≠ ne → WX.heap[q]? = w9.heap[q]? := fun q hq => by rw [hWX, hpS hq]
   have sX : WX.heap.size = w9.heap.size := by rw [hWX]; simp
   obtain ⟨e1, e2, e3, e4⟩ := Qa HN
   have zX := (oX w.heap.size (by omega)).trans zv
   have L5 := Qcf mX
   have S5 := Qbc (new := #[.int .i64 6, .int .i64 0, str x8, .slice ka ks.length kc, .int .i64 (t.at_ : Int)]) zX rfl rfl (by simp [Value.oneCell', str])
   obtain ⟨w6, hw6⟩ : ∃ w6, w6 = WX.setRow w.heap.size #[.int .i64 6, .int .i64 0, str x8, .slice ka ks.length kc, .int .i64 (t.at_ : Int)] := ⟨_, rfl⟩
   rw [← hw6] at S5
   have o6 : ∀ q, q ≠ w.heap.size → w6.heap[q]? = WX.heap[q]? := fun q hq => by rw [hw6]; exact setRow_other _ _ _ _ hq
   have s6 : w6.heap.size = WX.heap.size := by rw [hw6, size_setRow]
   have z6 : w6.heap[w.heap.size]? = some (.cells #[.int .i64 6, .int .i64 0, str x8, .slice ka ks.length kc, .int .i64 (t.at_ : Int)] 126 (0, 0)) := by rw [hw6]; exact setRow_heap _ _ _ _ _ _ zX
   have h6 := hv.move (w' := w6) (by omega) ((o6 rb (by omega)).trans (oX rb (by omega))) ((o6 g (by omega)).trans (oX g (by omega)))
   have k6 : Kp rb w w6 := ⟨by rw [hw6, hWX]; exact kv.os, by rw [hw6, hWX]; exact kv.tape, by rw [hw6, hWX]; exact kv.output, by rw [s6, sX]; exact kv.size, fun q hq hn => ((o6 q (by omega)).trans (oX q (by omega))).trans (kv.block q hq hn)⟩
   have hx6 : ExS (fun b => w.heap.size ≤ b) w6 [.int .i64 6, .int .i64 0, str x8, .slice ka ks.length kc, .int .i64 (t.at_ : Int)] (.mk 6 0 x8 ks (t.at_ : Int)) := Qfm ((((Qa hKS).1.mono Qae (S' := fun b => w.heap.size < b ∧ b ≠ ne) (fun b _ hb => by have := (Qa hKS).2; omega)).same Qae (by omega) (fun q hq _ => (o6 q (by omega)).trans (oX q hq.2))).mono Qae (fun b _ hb => by omega))
   have HF := hide (Ya h6 (Ya k6 (Ya z6 (Ya hx6 (hC)))))
   clear hv kv mv zv mX oX sX e1 e2 e3 e4 zX hw6 o6 s6 z6 h6 k6 hx6 hC hKS
   subst hWX
   go_wp2_with fail
   obtain ⟨h6, k6, z6, hx6, hY6⟩ := Qa HF
   obtain ⟨z_0, z_1, z_2, z_3, z_4, zf⟩ := ex5 z6
   refine bodyPost_ret (v := .agg #[.int .i64 6, .int .i64 0, str x8, .slice ka ks.length kc, .int .i64 (t.at_ : Int)]) (by simp [results, Try.results149, go_sem, z_0, z_1, z_2, z_3, z_4]) rfl ?_
   exact ⟨_, _, _, _, _, rfl, ⟨(.mk 6 0 x8 ks (t.at_ : Int)), _, rfl, ⟨_, _, _, rfl⟩, hx6⟩, hY6, h6, k6⟩
  have hcl := Qa HEX w5 a5 i y f5 (Qa H5).1
  go_wp2_with fail
  refine hcl.mono ?_
  clear hcl
  rintro en w7 ⟨_, a7, i7, y7, f7, rfl, ⟨x2, _, rfl, ⟨ea, en2, ec, rfl⟩, hx2⟩, ⟨ei, ha7, hy7⟩, h7, k7⟩
  rw [ei] at h7
  clear ei
  have hm7 := Qa HN
  have m7 := k7.keep (Qa H5).2.2.2.1 (by omega)
  have z7 := k7.keep (Qa H5).2.2.2.2 (by omega)
  have kw7 := (Qa H5).2.1.trans k7
  have hs7 := k7.size
  have hlm := Qa HL5
  have S7 := Qbc (new := #[.int .i64 x2.kind, .int .i64 x2.num, str x2.txt, .slice ea en2 ec, .int .i64 x2.at_]) m7 rfl rfl (by simp [Value.oneCell', str])
  obtain ⟨WY, hWY⟩ : ∃ WY, WY = w7.setRow ne #[.int .i64 x2.kind, .int .i64 x2.num, str x2.txt, .slice ea en2 ec, .int .i64 x2.at_] := ⟨_, rfl⟩
  rw [← hWY] at S7
  have oY : ∀ q, q ≠ ne → WY.heap[q]? = w7.heap[q]? := fun q hq => by rw [hWY]; exact setRow_other _ _ _ _ hq
  have sY : WY.heap.size = w7.heap.size := by rw [hWY, size_setRow]
  have mY : WY.heap[ne]? = some (.cells #[.int .i64 x2.kind, .int .i64 x2.num, str x2.txt, .slice ea en2 ec, .int .i64 x2.at_] 126 (0, 0)) := by rw [hWY]; exact setRow_heap _ _ _ _ _ _ m7
  have hYr := h7.move (w' := WY) (by omega) (oY rb (by omega)) (oY g (by omega))
  have kY : Kp rb w WY := ⟨by rw [hWY]; exact kw7.os, by rw [hWY]; exact kw7.tape, by rw [hWY]; exact kw7.output, by rw [sY]; exact kw7.size, fun q hq hn => (oY q (by omega)).trans (kw7.block q hq hn)⟩
  have hxY : ExS (fun b => w.heap.size < b ∧ b ≠ ne) WY [.int .i64 x2.kind, .int .i64 x2.num, str x2.txt, .slice ea en2 ec, .int .i64 x2.at_] x2 := Qae.mono _ _ _ _ _ (Qae.same _ _ WY _ _ hx2 (by omega) (fun q hq hl => oY q (by omega))) (fun b _ hb => ⟨by omega, by omega⟩)
  have hmu := Qbd hYr ⟨#[41]⟩
  have HY8 := hide (Ya kY (Ya mY (Ya ((oY _ (by omega)).trans z7) (Ya ha7 (Ya hy7 (Ya hxY (Ya hYr (show ne < WY.heap.size by omega))))))))
  clear hx2 h7 k7 hm7 m7 z7 kw7 hs7 hlm hWY oY sY mY hYr kY hxY ha7 hy7
  go_wp2_with fail
  refine hmu.mono ?_
  clear hmu
  rintro en w9 ⟨_, a9, i9, y9, f9, rfl, rfl, ⟨ei, ha9, hy9⟩, hv, k9⟩
  rw [ei] at hv
  clear ei
  obtain ⟨kY, mY, zY, ha8, hy8, hxY, hYr, hlY⟩ := Qa HY8
  have hm9 := Qa HN
  have kv := kY.trans k9
  have mv := k9.keep mY (by omega)
  have zv := k9.keep zY (by omega)
  have hC : CoY a i y a9 i y9 := ⟨rfl, by have := Qa HA5; omega, fun e => ⟨(hy8 (hy9 e).1).1, by have := (hy8 (hy9 e).1).2; have := Qa HA5; omega⟩⟩
  have HX2 := hide hxY
  have HS2 := hide k9.size
  have HB2 : Hid (∀ q, (w.heap.size < q ∧ q ≠ ne) → q < WY.heap.size → w9.heap[q]? = WY.heap[q]?) := fun q hq hl => k9.block q hl (by omega)
  clear kY mY zY ha8 hy8 hxY hYr hlY hm9 ha9 hy9 k9
  obtain ⟨x_0, x_1, x_2, x_3, x_4, xf⟩ := ex5 mv
  obtain ⟨WX, hWX⟩ : ∃ WX, WX = w9 := ⟨_, rfl⟩
  have mX : WX.heap[ne]? = some (.cells #[.int .i64 x2.kind, .int .i64 x2.num, str x2.txt, .slice ea en2 ec, .int .i64 x2.at_] 126 (0, 0)) := by rw [hWX]; exact mv
  have oX : ∀ q, q ≠ ne → WX.heap[q]? = w9.heap[q]? := fun q _ => by rw [hWX]
  have sX : WX.heap.size = w9.heap.size := by rw [hWX]
  obtain ⟨e1, e2, e3, e4⟩ := Qa HN
  have zX := (oX w.heap.size (by omega)).trans zv
  have L5 := Qcf mX
  have S5 := Qbc (new := #[.int .i64 x2.kind, .int .i64 x2.num, str x2.txt, .slice ea en2 ec, .int .i64 x2.at_]) zX rfl rfl (by simp [Value.oneCell', str])
  obtain ⟨w6, hw6⟩ : ∃ w6, w6 = WX.setRow w.heap.size #[.int .i64 x2.kind, .int .i64 x2.num, str x2.txt, .slice ea en2 ec, .int .i64 x2.at_] := ⟨_, rfl⟩
  rw [← hw6] at S5
  have o6 : ∀ q, q ≠ w.heap.size → w6.heap[q]? = WX.heap[q]? := fun q hq => by rw [hw6]; exact setRow_other _ _ _ _ hq
  have s6 : w6.heap.size = WX.heap.size := by rw [hw6, size_setRow]
  have z6 : w6.heap[w.heap.size]? = some (.cells #[.int .i64 x2.kind, .int .i64 x2.num, str x2.txt, .slice ea en2 ec, .int .i64 x2.at_] 126 (0, 0)) := by rw [hw6]; exact setRow_heap _ _ _ _ _ _ zX
  have h6 := hv.move (w' := w6) (by omega) ((o6 rb (by omega)).trans (oX rb (by omega))) ((o6 g (by omega)).trans (oX g (by omega)))
  have k6 : Kp rb w w6 := ⟨by rw [hw6, hWX]; exact kv.os, by rw [hw6, hWX]; exact kv.tape, by rw [hw6, hWX]; exact kv.output, by rw [s6, sX]; exact kv.size, fun q hq hn => ((o6 q (by omega)).trans (oX q (by omega))).trans (kv.block q hq hn)⟩
  have hx6 : ExS (fun b => w.heap.size ≤ b) w6 [.int .i64 x2.kind, .int .i64 x2.num, str x2.txt, .slice ea en2 ec, .int .i64 x2.at_] (x2) := Qae.mono _ _ _ _ _ (Qae.same _ _ w6 _ _ (Qa HX2) (by have := (Qa HS2); omega) (fun q hq hl => (o6 q (by omega)).trans ((oX q hq.2).trans ((Qa HB2) q hq hl)))) (fun b _ hb => by omega)
  have HF := hide (Ya h6 (Ya k6 (Ya z6 (Ya hx6 (hC)))))
  clear hv kv mv zv mX oX sX e1 e2 e3 e4 zX hw6 o6 s6 z6 h6 k6 hx6 hC HX2 HS2 HB2
  subst hWX
  go_wp2_with fail
  obtain ⟨h6, k6, z6, hx6, hY6⟩ := Qa HF
  obtain ⟨z_0, z_1, z_2, z_3, z_4, zf⟩ := ex5 z6
  refine bodyPost_ret (v := .agg #[.int .i64 x2.kind, .int .i64 x2.num, str x2.txt, .slice ea en2 ec, .int .i64 x2.at_]) (by simp [results, Try.results149, go_sem, z_0, z_1, z_2, z_3, z_4]) rfl ?_
  exact ⟨_, _, _, _, _, rfl, ⟨(x2), _, rfl, ⟨_, _, _, rfl⟩, hx6⟩, hY6, h6, k6⟩
 obtain ⟨u, hu⟩ := (Qa H4).1.tok
 have hnw := Qak (Qa H4).1 hu
 unfold tkA at hnw
 have HU := hide hu
 clear hu
 go_wp2_with fail
 refine hnw.mono ?_
 clear hnw
 rintro en w7 ⟨rfl, b7⟩
 have hm7 := Qa HN
 have H7 := hide (Ya ((Qa H4).1.later b7) (Ya ((Qa H4).2.1.trans (Kp.of_below b7)) (Ya ((Kp.of_below (rb := rb) b7).keep (Qa H4).2.2.2.1 (by omega)) (Ya ((Kp.of_below (rb := rb) b7).keep (Qa H4).2.2.2.2 (by omega)) ((Kp.of_below (rb := rb) b7).keep (Qa H4).2.2.1 (by omega))))))
 have HL7 := hide (show ne < w7.heap.size from Qab (Qa H7).2.2.1)
 clear b7 hm7
 by_cases kk : u.kind = 2
 ·
  have gkk : (u.kind == 2) = true := beq_iff_eq.2 kk
  have HM := hide ((Qa H7).1.more (Qa HU) (by omega))
  have htk := Qau (Qa H7).1 (Qa HU)
  unfold tkA at htk
  clear kk
  go_wp2_with fail
  rename_i hK
  refine hK _ _ ?_
  clear hK
  go_wp2_with fail
  refine htk.mono ?_
  clear htk
  rintro en w9 ⟨_, a9, i9, y9, f9, rfl, rfl, ⟨ei, ey, hY9⟩, hv, k9⟩
  rw [ei, ey] at hv
  clear ei ey
  have hC : CoY a i y a9 i y := by
   have := Qa HM
   have := Qa HA4
   rcases hY9 with ⟨_, _, e⟩ | ⟨e, hn⟩
   · exact ⟨rfl, by omega, fun h => ⟨h, by omega⟩⟩
   · exact ⟨rfl, by omega, fun h => absurd (Qa HM) (hn h)⟩
  have kv := (Qa H7).2.1.trans k9
  have mv := k9.keep (Qa H7).2.2.1 (by have := Qa HN; omega)
  have zv := k9.keep (Qa H7).2.2.2.1 (by have := Qa HN; omega)
  clear hY9 k9
  obtain ⟨x_0, x_1, x_2, x_3, x_4, xf⟩ := ex5 mv
  obtain ⟨WX, hWX⟩ : ∃ WX, WX = ((w9.setCell ⟨ne, 0, none⟩ (.int .i64 2)).setCell ⟨ne, 1, none⟩ (.int .i64 (wrap64 (-u.num)))) := ⟨_, rfl⟩
  have mX : WX.heap[ne]? = some (.cells #[.int .i64 2, .int .i64 (wrap64 (-u.num)), .string ⟨#[]⟩, .slice none 0 0, .int .i64 (t.at_ : Int)] 126 (0, 0)) := by rw [hWX]; exact (Qah (Qah mv 0 _) 1 _).trans rfl
  have oX : ∀ q, q ≠ ne → WX.heap[q]? = w9.heap[q]? := fun q hq => by rw [hWX, hpS hq, hpS hq]
  have sX : WX.heap.size = w9.heap.size := by rw [hWX]; simp
  obtain ⟨e1, e2, e3, e4⟩ := Qa HN
  have zX := (oX w.heap.size (by omega)).trans zv
  have L5 := Qcf mX
  have S5 := Qbc (new := #[.int .i64 2, .int .i64 (wrap64 (-u.num)), .string ⟨#[]⟩, .slice none 0 0, .int .i64 (t.at_ : Int)]) zX rfl rfl (by simp [Value.oneCell'])
  obtain ⟨w6, hw6⟩ : ∃ w6, w6 = WX.setRow w.heap.size #[.int .i64 2, .int .i64 (wrap64 (-u.num)), .string ⟨#[]⟩, .slice none 0 0, .int .i64 (t.at_ : Int)] := ⟨_, rfl⟩
  rw [← hw6] at S5
  have o6 : ∀ q, q ≠ w.heap.size → w6.heap[q]? = WX.heap[q]? := fun q hq => by rw [hw6]; exact setRow_other _ _ _ _ hq
  have s6 : w6.heap.size = WX.heap.size := by rw [hw6, size_setRow]
  have z6 : w6.heap[w.heap.size]? = some (.cells #[.int .i64 2, .int .i64 (wrap64 (-u.num)), .string ⟨#[]⟩, .slice none 0 0, .int .i64 (t.at_ : Int)] 126 (0, 0)) := by rw [hw6]; exact setRow_heap _ _ _ _ _ _ zX
  have h6 := hv.move (w' := w6) (by omega) ((o6 rb (by omega)).trans (oX rb (by omega))) ((o6 g (by omega)).trans (oX g (by omega)))
  have k6 : Kp rb w w6 := ⟨by rw [hw6, hWX]; exact kv.os, by rw [hw6, hWX]; exact kv.tape, by rw [hw6, hWX]; exact kv.output, by rw [s6, sX]; exact kv.size, fun q hq hn => ((o6 q (by omega)).trans (oX q (by omega))).trans (kv.block q hq hn)⟩
  have hx6 : ExS (fun b => w.heap.size ≤ b) w6 [.int .i64 2, .int .i64 (wrap64 (-u.num)), .string ⟨#[]⟩, .slice none 0 0, .int .i64 (t.at_ : Int)] (.mk 2 (wrap64 (-u.num)) [] [] (t.at_ : Int)) := Qbu _ _ _ _ _ _
  have HF := hide (Ya h6 (Ya k6 (Ya z6 (Ya hx6 (hC)))))
  clear hv kv mv zv mX oX sX e1 e2 e3 e4 zX hw6 o6 s6 z6 h6 k6 hx6 hC
  subst hWX
  go_wp2_with fail
  rename_i hK
  refine hK _ _ ?_
  clear hK
  go_wp2_with fail
  obtain ⟨h6, k6, z6, hx6, hY6⟩ := Qa HF
  obtain ⟨z_0, z_1, z_2, z_3, z_4, zf⟩ := ex5 z6
  refine bodyPost_ret (v := .agg #[.int .i64 2, .int .i64 (wrap64 (-u.num)), .string ⟨#[]⟩, .slice none 0 0, .int .i64 (t.at_ : Int)]) (by simp [results, Try.results149, go_sem, z_0, z_1, z_2, z_3, z_4]) rfl ?_
  exact ⟨_, _, _, _, _, rfl, ⟨(.mk 2 (wrap64 (-u.num)) [] [] (t.at_ : Int)), _, rfl, ⟨_, _, _, rfl⟩, hx6⟩, hY6, h6, k6⟩
 have gkk : (u.kind == 2) = false := beq_eq_false_iff_ne.2 kk
 clear kk
 go_wp2_with fail
 rename_i hK
 refine hK _ _ ?_
 clear hK
 have hm7 := Qa HN
 have hlm := Qa HL7
 obtain ⟨h7, kw7, m7, z7, t7⟩ := Qa H7
 obtain ⟨x_0, x_1, x_2, x_3, x_4, xf⟩ := ex5 m7
 obtain ⟨WY, hWY⟩ : ∃ WY, WY = (w7.setCell ⟨ne, 0, none⟩ (.int .i64 5)).setCell ⟨ne, 2, none⟩ (.string ⟨#[45]⟩) := ⟨_, rfl⟩
 have mY : WY.heap[ne]? = some (.cells #[.int .i64 5, .int .i64 0, .string ⟨#[45]⟩, .slice none 0 0, .int .i64 (t.at_ : Int)] 126 (0, 0)) := by rw [hWY]; exact (Qah (Qah m7 0 _) 2 _).trans rfl
 have oY : ∀ q, q ≠ ne → WY.heap[q]? = w7.heap[q]? := fun q hq => by rw [hWY, hpS hq, hpS hq]
 have sY : WY.heap.size = w7.heap.size := by rw [hWY]; simp
 have hYr := h7.move (w' := WY) (by omega) (oY rb (by omega)) (oY g (by omega))
 have kY : Kp rb w WY := ⟨by rw [hWY]; exact kw7.os, by rw [hWY]; exact kw7.tape, by rw [hWY]; exact kw7.output, by rw [sY]; exact kw7.size, fun q hq hn => (oY q (by omega)).trans (kw7.block q hq hn)⟩
 have tY := (oY nt (by omega)).trans t7
 have hr5 := Qa HFX WY.drew a4 i y f4 (hYr.later (Below.refl _ WY).drew)
 have HC : Hid (∀ w', Kp rb WY w' → w'.heap[nt]? = some (.cells #[.int .i64 t.kind, str t.text, .int .i64 t.num, .int .i64 (t.at_ : Int)] 54 (0, 0))) := fun w' kk => kk.keep tY (by omega)
 have HY8 := hide (Ya kY (Ya mY (Ya ((oY _ (by omega)).trans z7) (show ne < WY.heap.size by omega))))
 have HWY := hide hWY
 clear h7 kw7 m7 z7 t7 hm7 hlm hWY mY oY sY hYr kY tY
 go_wp2_with fail
 rw [← Qa HWY]
 clear HWY x_0 x_1 x_2 x_3 x_4 xf
 refine Qam (m := 7) (ml := [(0, 1), (1, 1), (2, 1), (3, 1), (4, 0), (5, 0), (6, 1), (7, 0)]) (fun _ w' => w'.heap[nt]? = some (.cells #[.int .i64 t.kind, str t.text, .int .i64 t.num, .int .i64 (t.at_ : Int)] 54 (0, 0))) mixedO (by kernel_rfl) rfl (by rfl) (by kernel_rfl) (fun PP hPP => ?_)
 refine Qad rfl (by kernel_rfl) (fun _ _ _ => by go_simp <;> rfl) ?_
 refine Qad rfl (by kernel_rfl) (fun f w' hw => by obtain ⟨q_0, q_1, q_2, q_3, qf⟩ := cl4 hw; go_simp <;> rfl) ?_
 iterate 2 (refine mF (v := ?_) (fun f w' hw => ?_) ?_; rotate_left; · (go_simp <;> rfl))
 refine Qaa rfl (Qa HC _ (Kp.of_below (Below.refl _ WY).drew)) (fun K hK => ?_)
 go_simp
 refine hr5.mono ?_
 clear hr5
 rintro en w8 ⟨_, a8, i8, y8, f8, rfl, ⟨x2, _, rfl, ⟨ea, en2, ec, rfl⟩, hx2⟩, ⟨ei, ha8, hy8⟩, h8, k8⟩
 rw [ei] at h8
 clear ei
 show K _ _
 refine hK _ _ ?_
 clear hK K
 have k78 : Kp rb WY w8 := (Kp.of_below (Below.refl _ WY).drew).trans k8
 obtain ⟨kY, mY, zY, hlY⟩ := Qa HY8
 have hm8 := Qa HN
 have hs8 : WY.heap.size ≤ w8.heap.size := k8.size
 have m8 := k78.keep mY (by omega)
 obtain ⟨nk, hnk⟩ : ∃ nk, w8.heap.size = nk := ⟨_, rfl⟩
 obtain ⟨w9, hw9⟩ : ∃ w9, w9 = w8.alloc (.cells #[.int .i64 2, .int .i64 0, .string ⟨#[]⟩, .slice none 0 0, .int .i64 (t.at_ : Int), .int .i64 x2.kind, .int .i64 x2.num, str x2.txt, .slice ea en2 ec, .int .i64 x2.at_] 126) := ⟨_, rfl⟩
 have b9 : Below w8.heap.size w8 w9 := by rw [hw9]; exact (Below.refl _ w8).alloc (Nat.le_refl _) _
 have q9 : w9.heap[nk]? = some (.cells #[.int .i64 2, .int .i64 0, .string ⟨#[]⟩, .slice none 0 0, .int .i64 (t.at_ : Int), .int .i64 x2.kind, .int .i64 x2.num, str x2.txt, .slice ea en2 ec, .int .i64 x2.at_] 126 (0, 0)) := by rw [hw9, ← hnk]; exact heap_alloc_new w8 _
 have s9 : w9.heap.size = w8.heap.size + 1 := by rw [hw9]; simp
 have m9 := (b9.block _ (Qab m8)).trans m8
 have k79 : Kp rb WY w9 := k78.trans (Kp.of_below b9)
 obtain ⟨w10, hw10⟩ : ∃ w10, w10 = w9.setCell ⟨ne, 3, none⟩ (.slice (some ⟨nk, 0, none⟩) 2 2) := ⟨_, rfl⟩
 have o10 : ∀ q, q ≠ ne → w10.heap[q]? = w9.heap[q]? := fun q hq => by rw [hw10, hpS hq]
 have s10 : w10.heap.size = w9.heap.size := by rw [hw10]; simp
 have mv : w10.heap[ne]? = some (.cells #[.int .i64 5, .int .i64 0, .string ⟨#[45]⟩, .slice (some ⟨nk, 0, none⟩) 2 2, .int .i64 (t.at_ : Int)] 126 (0, 0)) := by rw [hw10]; exact (Qah m9 3 _).trans rfl
 have hv := (h8.later b9).move (w' := w10) (by omega) (o10 rb (by omega)) (o10 g (by omega))
 have kw9 : Kp rb w w9 := kY.trans k79
 have kv : Kp rb w w10 := ⟨by rw [hw10]; exact kw9.os, by rw [hw10]; exact kw9.tape, by rw [hw10]; exact kw9.output, by rw [s10]; exact kw9.size, fun q hq hn => (o10 q (by omega)).trans (kw9.block q hq hn)⟩
 have zv := (o10 w.heap.size (by omega)).trans (k79.keep zY (by omega))
 have hxb : ExS (fun b => w.heap.size < b ∧ b ≠ ne) w10 [.int .i64 x2.kind, .int .i64 x2.num, str x2.txt, .slice ea en2 ec, .int .i64 x2.at_] x2 := Qae.mono _ _ _ _ _ (Qae.same _ _ w10 _ _ (Qae.mono _ (fun b => WY.drew.heap.size ≤ b ∧ b < w8.heap.size) _ _ _ hx2 (fun b hl hb => ⟨hb, hl⟩)) (by omega) (fun q hq hl => (o10 q (by have := hq.1; have : WY.drew.heap.size = WY.heap.size := rfl; omega)).trans (b9.block q hl))) (fun b _ hb => ⟨by have := hb.1; have : WY.drew.heap.size = WY.heap.size := rfl; have := kY.size; omega, by have := hb.1; have : WY.drew.heap.size = WY.heap.size := rfl; omega⟩)
 have q10 := (o10 nk (by omega)).trans q9
 have hkids : LsAt PE 5 (fun b => w.heap.size < b ∧ b ≠ ne) w10 (.slice (some ⟨nk, 0, none⟩) 2 2) [.mk 2 0 [] [] (t.at_ : Int), x2] := ⟨some ⟨nk, 0, none⟩, 2, [[.int .i64 2, .int .i64 0, .string ⟨#[]⟩, .slice none 0 0, .int .i64 (t.at_ : Int)], [.int .i64 x2.kind, .int .i64 x2.num, str x2.txt, .slice ea en2 ec, .int .i64 x2.at_]], rfl, Nat.le_refl _, by unfold maxLen; omega, ⟨rfl, fun j x cs h1 h2 => by
  match j, h1, h2 with
  | 0, h1, h2 => cases h1; cases h2; exact ⟨rfl, Qbu _ _ _ _ _ _⟩
  | 1, h1, h2 => cases h1; cases h2; exact ⟨rfl, hxb⟩
  | j + 2, h1, h2 => simp at h1⟩, fun _ => ⟨nk, rfl, ⟨by have := kY.size; omega, by omega⟩, Qab q10, fun j c hj => by rw [Qaf q10]; simpa using hj⟩⟩
 have hx10 : ExS (fun b => w.heap.size < b ∧ b ≠ ne) w10 [.int .i64 5, .int .i64 0, .string ⟨#[45]⟩, .slice (some ⟨nk, 0, none⟩) 2 2, .int .i64 (t.at_ : Int)] (.mk 5 0 [45] [.mk 2 0 [] [] (t.at_ : Int), x2] (t.at_ : Int)) := Qfm hkids
 have hC : CoY a i y a8 i y8 := ⟨rfl, by have := Qa HA4; omega, fun e => ⟨(hy8 e).1, by have := (hy8 e).2; have := Qa HA4; omega⟩⟩
 have HX2 := hide (Ya hx10 (Ya hv (Ya kv (Ya mv (Ya zv (Ya hC (Ya (Qa HC _ k78) (Ya (Qa HC _ k79) (Ya ((o10 nt (by omega)).trans (Qa HC _ k79)) m9)))))))))
 have HW9 := hide (Ya hw9 hnk)
 have HW10 := hide hw10
 clear k78 kY mY zY hlY hm8 hs8 m8 hnk hw9 b9 q9 s9 m9 k79 hw10 o10 s10 mv hv kw9 kv zv hxb q10 hkids hx10 hC hx2 ha8 hy8 h8 k8
 refine Qaa rfl (Qa HX2).2.2.2.2.2.2.1 (fun K hK => ?_)
 go_simp
 rw [← (Qa HW9).1, (Qa HW9).2]
 refine hK _ _ ?_
 clear hK K
 refine Qad rfl (by kernel_rfl) (fun _ _ _ => by go_simp <;> rfl) ?_
 refine Qaa rfl (Qa HX2).2.2.2.2.2.2.2.1 (fun K hK => ?_)
 obtain ⟨x_0, x_1, x_2, x_3, x_4, xf⟩ := ex5 (Qa HX2).2.2.2.2.2.2.2.2.2
 go_simp
 rw [← Qa HW10]
 refine hK _ _ ?_
 clear hK K x_0 x_1 x_2 x_3 x_4 xf
 refine Qap (Qa HX2).2.2.2.2.2.2.2.2.1 (hPP _ _ ?_)
 clear hPP PP
 obtain ⟨_, hv, kv, mv, zv, hC, _⟩ := Qa HX2
 obtain ⟨x_0, x_1, x_2, x_3, x_4, xf⟩ := ex5 mv
 obtain ⟨WX, hWX⟩ : ∃ WX, WX = w10 := ⟨_, rfl⟩
 have mX : WX.heap[ne]? = some (.cells #[.int .i64 5, .int .i64 0, .string ⟨#[45]⟩, .slice (some ⟨nk, 0, none⟩) 2 2, .int .i64 (t.at_ : Int)] 126 (0, 0)) := by rw [hWX]; exact mv
 have oX : ∀ q, q ≠ ne → WX.heap[q]? = w10.heap[q]? := fun q _ => by rw [hWX]
 have sX : WX.heap.size = w10.heap.size := by rw [hWX]
 obtain ⟨e1, e2, e3, e4⟩ := Qa HN
 have zX := (oX w.heap.size (by omega)).trans zv
 have L5 := Qcf mX
 have S5 := Qbc (new := #[.int .i64 5, .int .i64 0, .string ⟨#[45]⟩, .slice (some ⟨nk, 0, none⟩) 2 2, .int .i64 (t.at_ : Int)]) zX rfl rfl (by simp [Value.oneCell'])
 obtain ⟨w6, hw6⟩ : ∃ w6, w6 = WX.setRow w.heap.size #[.int .i64 5, .int .i64 0, .string ⟨#[45]⟩, .slice (some ⟨nk, 0, none⟩) 2 2, .int .i64 (t.at_ : Int)] := ⟨_, rfl⟩
 rw [← hw6] at S5
 have o6 : ∀ q, q ≠ w.heap.size → w6.heap[q]? = WX.heap[q]? := fun q hq => by rw [hw6]; exact setRow_other _ _ _ _ hq
 have s6 : w6.heap.size = WX.heap.size := by rw [hw6, size_setRow]
 have z6 : w6.heap[w.heap.size]? = some (.cells #[.int .i64 5, .int .i64 0, .string ⟨#[45]⟩, .slice (some ⟨nk, 0, none⟩) 2 2, .int .i64 (t.at_ : Int)] 126 (0, 0)) := by rw [hw6]; exact setRow_heap _ _ _ _ _ _ zX
 have h6 := hv.move (w' := w6) (by omega) ((o6 rb (by omega)).trans (oX rb (by omega))) ((o6 g (by omega)).trans (oX g (by omega)))
 have k6 : Kp rb w w6 := ⟨by rw [hw6, hWX]; exact kv.os, by rw [hw6, hWX]; exact kv.tape, by rw [hw6, hWX]; exact kv.output, by rw [s6, sX]; exact kv.size, fun q hq hn => ((o6 q (by omega)).trans (oX q (by omega))).trans (kv.block q hq hn)⟩
 have hx6 : ExS (fun b => w.heap.size ≤ b) w6 [.int .i64 5, .int .i64 0, .string ⟨#[45]⟩, .slice (some ⟨nk, 0, none⟩) 2 2, .int .i64 (t.at_ : Int)] (.mk 5 0 [45] [.mk 2 0 [] [] (t.at_ : Int), x2] (t.at_ : Int)) := Qae.mono _ _ _ _ _ (Qae.same _ _ w6 _ _ (Qa HX2).1 (by omega) (fun q hq hl => (o6 q (by omega)).trans (oX q hq.2))) (fun b _ hb => by omega)
 have HF := hide (Ya h6 (Ya k6 (Ya z6 (Ya hx6 (hC)))))
 clear hv kv mv zv mX oX sX e1 e2 e3 e4 zX hw6 o6 s6 z6 h6 k6 hx6 hC
 subst hWX
 go_wp2_with fail
 obtain ⟨h6, k6, z6, hx6, hY6⟩ := Qa HF
 obtain ⟨z_0, z_1, z_2, z_3, z_4, zf⟩ := ex5 z6
 refine bodyPost_ret (v := .agg #[.int .i64 5, .int .i64 0, .string ⟨#[45]⟩, .slice (some ⟨nk, 0, none⟩) 2 2, .int .i64 (t.at_ : Int)]) (by simp [results, Try.results149, go_sem, z_0, z_1, z_2, z_3, z_4]) rfl ?_
 exact ⟨_, _, _, _, _, rfl, ⟨(.mk 5 0 [45] [.mk 2 0 [] [] (t.at_ : Int), x2] (t.at_ : Int)), _, rfl, ⟨_, _, _, rfl⟩, hx6⟩, hY6, h6, k6⟩
end
end Go.Proofs.Ytfmbpaoapjmdnaa
