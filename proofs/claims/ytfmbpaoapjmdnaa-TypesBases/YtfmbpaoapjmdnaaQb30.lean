/- The document's reader by the tokens that are next: one, at a number, a text, `_` and a variable. The document's reader by the tokens that are next: an expression without operators, where one is told. The document's reader by the tokens that are next: atom. The document's reader by the tokens that are next: lit (an atom, or `!` and an atom). -/
import Derived.Test.YtfmbpaoapjmdnaaQb29
import Derived.Test.YtfmbpaoapjmdnaaQb14
import Derived.Test.YtfmbpaoapjmdnaaQb15
import Derived.Test.YtfmbpaoapjmdnaaQb19
set_option maxRecDepth 100000
set_option maxHeartbeats 32000000
namespace Go.Proofs.Ytfmbpaoapjmdnaa
section
open Go.RowKit Go.Maps
attribute [local go_sem ↓] Qbk Qbw
theorem Qql {rb g cap d : Nat} {l : List Tok} {s : Txt} (hq : wordP s = true) (hs : s ≠ [95]) : YEa 149 rb g cap l d #[.pointer (some ⟨rb, 0, none⟩)] (fun _ => True) [nmR s] (.mk 1 0 s [] 0) := by
 intro w a i r h hA _
 have HQ := hide hq
 have b0 : Below w.heap.size w (w.alloc (.cells #[.int .i64 0, .int .i64 0, .string ⟨#[]⟩, .slice none 0 0, .int .i64 0] 126)) := (Below.refl _ w).alloc (Nat.le_refl _) _
 have n0 : (w.alloc (.cells #[.int .i64 0, .int .i64 0, .string ⟨#[]⟩, .slice none 0 0, .int .i64 0] 126)).heap[w.heap.size]? = some (.cells #[.int .i64 0, .int .i64 0, .string ⟨#[]⟩, .slice none 0 0, .int .i64 0] 126 (0, 0)) := heap_alloc_new w _
 have s0 : (w.alloc (.cells #[.int .i64 0, .int .i64 0, .string ⟨#[]⟩, .slice none 0 0, .int .i64 0] 126)).heap.size = w.heap.size + 1 := by simp
 obtain ⟨t, ht, hz, hn⟩ := (show Nxt l a (nmR s :: r) from hA).at
 simp only [zk, Prod.mk.injEq] at hz
 obtain ⟨hz1, hz2, hz3⟩ := hz
 have HZ := hide (Ya hz1 (Ya hz2 (Ya hz3 hn)))
 have hnw := Qak (h.later b0) ht
 unfold tkA at hnw
 have hrl := Qab h.box
 have hgl := h.row.lt
 have HH := hide h
 have HT := hide ht
 have H0 := hide (Ya b0 (Ya n0 s0))
 clear h ht hz1 hz2 hz3 hn hA b0 n0 s0
 go_enter Try.func149, Try.ntmps149
 go_wp2_with fail
 refine hnw.mono ?_
 clear hnw
 rintro en w1 ⟨rfl, b1⟩
 obtain ⟨b0, n0, s0⟩ := Qa H0
 obtain ⟨W2, hW2⟩ : ∃ W2, W2 = w1.alloc (.cells #[.int .i64 t.kind, str t.text, .int .i64 t.num, .int .i64 (t.at_ : Int)] 54) := ⟨_, rfl⟩
 obtain ⟨W3, hW3⟩ : ∃ W3, W3 = W2.alloc (.cells #[.int .i64 0, .int .i64 0, .string ⟨#[]⟩, .slice none 0 0, .int .i64 (t.at_ : Int)] 126) := ⟨_, rfl⟩
 have hs1 := b1.size
 have s2 : W2.heap.size = w1.heap.size + 1 := by rw [hW2]; simp
 have s3 : W3.heap.size = W2.heap.size + 1 := by rw [hW3]; simp
 have b2 : Below w1.heap.size w1 W2 := by rw [hW2]; exact (Below.refl _ w1).alloc (Nat.le_refl _) _
 have b3 : Below W2.heap.size W2 W3 := by rw [hW3]; exact (Below.refl _ W2).alloc (Nat.le_refl _) _
 have t2 : W2.heap[w1.heap.size]? = some (.cells #[.int .i64 t.kind, str t.text, .int .i64 t.num, .int .i64 (t.at_ : Int)] 54 (0, 0)) := by rw [hW2]; exact heap_alloc_new w1 _
 have t3 : W3.heap[w1.heap.size]? = some (.cells #[.int .i64 t.kind, str t.text, .int .i64 t.num, .int .i64 (t.at_ : Int)] 54 (0, 0)) := (b3.block _ (by omega)).trans t2
 have m3 : W3.heap[W2.heap.size]? = some (.cells #[.int .i64 0, .int .i64 0, .string ⟨#[]⟩, .slice none 0 0, .int .i64 (t.at_ : Int)] 126 (0, 0)) := by rw [hW3]; exact heap_alloc_new W2 _
 have z3 : W3.heap[w.heap.size]? = some (.cells #[.int .i64 0, .int .i64 0, .string ⟨#[]⟩, .slice none 0 0, .int .i64 0] 126 (0, 0)) := ((b3.block _ (by omega)).trans ((b2.block _ (by omega)).trans (b1.block _ (by omega)))).trans n0
 have bw3 : Below w.heap.size w W3 := ((b0.trans (b1.mono (by omega))).trans (b2.mono (by omega))).trans (b3.mono (by omega))
 obtain ⟨y_0, y_1, y_2, y_3, yf⟩ := cl4 t2
 obtain ⟨v_0, v_1, v_2, v_3, vf⟩ := cl4 t3
 have N3 := Qdv W2 (c0 := .int .i64 0) (c1 := .int .i64 0) (c2 := .string ⟨#[]⟩) (c3 := .slice none 0 0) (c4 := .int .i64 (t.at_ : Int)) (by simp [Value.oneCell'])
 rw [← hW3, s2] at N3
 obtain ⟨nt, hnt⟩ : ∃ nt, w1.heap.size = nt := ⟨_, rfl⟩
 obtain ⟨ne, hne⟩ : ∃ ne, w1.heap.size + 1 = ne := ⟨_, rfl⟩
 rw [hnt] at t3
 rw [s2, hne] at m3
 have H3 := hide (Ya ((Qa HH).later bw3) (Ya (Kp.of_below (rb := rb) bw3) (Ya t3 (Ya m3 z3))))
 have HN := hide (show rb < w.heap.size ∧ g < w.heap.size ∧ w.heap.size < nt ∧ nt < ne by omega)
 have HL := hide (show W3.heap.size = ne + 1 by omega)
 have HW := hide (Ya hne hnt)
 rw [hW2] at y_0 y_1 y_2 y_3 N3
 clear yf vf b0 n0 s0 b1 hW2 hW3 hs1 s2 s3 b2 b3 t2 t3 m3 z3 bw3 hnt hne H0
 have k1 : t.kind = 1 := (Qa HZ).1
 have k2 : t.kind ≠ 2 := by rw [k1]; decide
 have k3 : t.kind ≠ 3 := by rw [k1]; decide
 have gk2 : (t.kind == 2) = false := beq_eq_false_iff_ne.2 k2
 have gk3 : (t.kind == 3) = false := beq_eq_false_iff_ne.2 k3
 have gk1 : (t.kind == 1) = true := beq_iff_eq.2 k1
 have ku : t.text ≠ [95] := by have e : t.text = s := (Qa HZ).2.1; rw [e]; exact hs
 have gu : (t.text == [95]) = false := by simpa using ku
 have hwd := Qjf (Qa H3).1 (Qa HT) k1 (by have e : t.text = s := (Qa HZ).2.1; rw [e]; exact Qa HQ) ku
 clear k2 k3 k1 ku
 go_wp2_with fail
 rw [(Qa HW).1, (Qa HW).2]
 refine hwd.mono ?_
 clear hwd
 rintro en w9 ⟨_, rfl, rfl, hv, k9⟩
 have kv := (Qa H3).2.1.trans k9
 have mv := k9.keep (Qa H3).2.2.2.1 (by have := Qa HN; omega)
 have zv := k9.keep (Qa H3).2.2.2.2 (by have := Qa HN; omega)
 clear k9
 obtain ⟨x_0, x_1, x_2, x_3, x_4, xf⟩ := ex5 mv
 obtain ⟨WX, hWX⟩ : ∃ WX, WX = ((w9.setCell ⟨ne, 0, none⟩ (.int .i64 1)).setCell ⟨ne, 2, none⟩ (str t.text)) := ⟨_, rfl⟩
 have mX : WX.heap[ne]? = some (.cells #[.int .i64 1, .int .i64 0, str t.text, .slice none 0 0, .int .i64 (t.at_ : Int)] 126 (0, 0)) := by rw [hWX]; exact (Qah (Qah mv 0 _) 2 _).trans rfl
 have oX : ∀ q, q ≠ ne → WX.heap[q]? = w9.heap[q]? := fun q hq => by rw [hWX, hpS hq, hpS hq]
 have sX : WX.heap.size = w9.heap.size := by rw [hWX]; simp
 obtain ⟨e1, e2, e3, e4⟩ := Qa HN
 have zX := (oX w.heap.size (by omega)).trans zv
 have L5 := Qcf mX
 have S5 := Qbc (new := #[.int .i64 1, .int .i64 0, str t.text, .slice none 0 0, .int .i64 (t.at_ : Int)]) zX rfl rfl (by simp [Value.oneCell', str])
 obtain ⟨w6, hw6⟩ : ∃ w6, w6 = WX.setRow w.heap.size #[.int .i64 1, .int .i64 0, str t.text, .slice none 0 0, .int .i64 (t.at_ : Int)] := ⟨_, rfl⟩
 rw [← hw6] at S5
 have o6 : ∀ q, q ≠ w.heap.size → w6.heap[q]? = WX.heap[q]? := fun q hq => by rw [hw6]; exact setRow_other _ _ _ _ hq
 have s6 : w6.heap.size = WX.heap.size := by rw [hw6, size_setRow]
 have z6 : w6.heap[w.heap.size]? = some (.cells #[.int .i64 1, .int .i64 0, str t.text, .slice none 0 0, .int .i64 (t.at_ : Int)] 126 (0, 0)) := by rw [hw6]; exact setRow_heap _ _ _ _ _ _ zX
 have h6 := hv.move (w' := w6) (by omega) ((o6 rb (by omega)).trans (oX rb (by omega))) ((o6 g (by omega)).trans (oX g (by omega)))
 have k6 : Kp rb w w6 := ⟨by rw [hw6, hWX]; exact kv.os, by rw [hw6, hWX]; exact kv.tape, by rw [hw6, hWX]; exact kv.output, by rw [s6, sX]; exact kv.size, fun q hq hn => ((o6 q (by omega)).trans (oX q (by omega))).trans (kv.block q hq hn)⟩
 have hx6 : ExS (fun b => w.heap.size ≤ b) w6 [.int .i64 1, .int .i64 0, str t.text, .slice none 0 0, .int .i64 (t.at_ : Int)] (.mk 1 0 t.text [] (t.at_ : Int)) := Qbu _ _ _ _ _ _
 have HF := hide (Ya h6 (Ya k6 (Ya z6 (Ya hx6 trivial))))
 clear hv kv mv zv mX oX sX e1 e2 e3 e4 zX hw6 o6 s6 z6 h6 k6 hx6
 subst hWX
 go_wp2_with fail
 obtain ⟨h6, k6, z6, hx6, hY6⟩ := Qa HF
 obtain ⟨z_0, z_1, z_2, z_3, z_4, zf⟩ := ex5 z6
 refine bodyPost_ret (v := .agg #[.int .i64 1, .int .i64 0, str t.text, .slice none 0 0, .int .i64 (t.at_ : Int)]) (by simp [results, Try.results149, go_sem, z_0, z_1, z_2, z_3, z_4]) rfl ?_
 exact ⟨_, _, rfl, ⟨(.mk 1 0 t.text [] (t.at_ : Int)), ⟨_, rfl, ⟨_, _, _, rfl⟩, hx6⟩, by have e : t.text = s := (Qa HZ).2.1; simp [eqE, eqEs, e]⟩, h6, k6, (Qa HZ).2.2.2⟩
end
section
open Go.RowKit Go.Maps
def Fole (r : List Tok) : Prop := (True ∧ ∃ t r', r = t :: r' ∧ pickS t [[42], [47], [37]] = []) ∧ ∃ t r', r = t :: r' ∧ pickS t [[43], [45]] = []
theorem Qjl {s : Txt} {r : List Tok} (h1 : pickS (sgQ s) [[42], [47], [37]] = []) (h2 : pickS (sgQ s) [[43], [45]] = []) : Fole (sgQ s :: r) := ⟨⟨trivial, _, _, rfl, h1⟩, _, _, rfl, h2⟩
theorem Qgs (r : List Tok) : Fole (sgQ [44] :: r) := Qjl (by decide) (by decide)
theorem Qle (r : List Tok) : Fole (sgQ [41] :: r) := Qjl (by decide) (by decide)
theorem Qm {rb g cap d : Nat} {l : List Tok} {K : List Tok} {x : Ex} (hd : d < 31) (h1 : YEa 149 rb g cap l (d + 2) #[.pointer (some ⟨rb, 0, none⟩)] (fun _ => True) K x) : YE 116 rb g cap l d Fole K x := by
 have hf := Qmb (d := d + 1) (by omega) h1
 have r2 := Qqp hf
 have r1 := Qqo (os := []) r2 (by simp) (by simp)
 have r0 := Qqn (os := []) r1 (by simp) (by simp)
 simp only [opsT, List.append_nil, opsX] at r0
 exact Qqk (by omega) r0
theorem Qoz {rb g cap d : Nat} {l : List Tok} {s : Txt} (hd : d < 31) (hq : wordP s = true) (hs : s ≠ [95]) : YE 116 rb g cap l d Fole [nmR s] (.mk 1 0 s [] 0) := Qm hd (Qql hq hs)
end
section
open Go.RowKit Go.Maps
theorem eqA_of {t s : Txt} {ks xs : List Ex} {a b : Int} (h : t = s) (h2 : eqL eqE ks xs = true) : eqA ⟨t, ks, a⟩ ⟨s, xs, b⟩ = true := by
 unfold eqA
 simp [h, h2]
theorem Qjg {rb g cap a d i : Nat} {l : List Tok} {w : World} (h : Rr rb g cap l w a d i 0 0) {s : Txt} {K : Ex → List Tok} {xs : List Ex} (hx : ∀ x ∈ xs, YE 116 rb g cap l d Fole (K x) x ∧ ∃ t0 ks, K x = t0 :: ks ∧ isSg t0 [41] = false) (hm : xs.length ≤ 8) {rest : List Tok} (hA : Nxt l a (nmR s :: sgQ [40] :: (joinQ (xs.map K) ++ sgQ [41] :: rest))) :
  Calls Try.prog 92 #[.pointer (some ⟨rb, 0, none⟩)] w fun en w' => XB rb g cap l w d (fun w' v => ∃ x : Atm, VAm (fun b => w.heap.size ≤ b) w' v x ∧ eqA x ⟨s, xs, 0⟩ = true) rest i en w' := by
 have b0 : Below w.heap.size w (w.alloc (.cells #[.string ⟨#[]⟩, .slice none 0 0, .int .i64 0] 75)) := (Below.refl _ w).alloc (Nat.le_refl _) _
 have n0 : (w.alloc (.cells #[.string ⟨#[]⟩, .slice none 0 0, .int .i64 0] 75)).heap[w.heap.size]? = some (.cells #[.string ⟨#[]⟩, .slice none 0 0, .int .i64 0] 75 (0, 0)) := heap_alloc_new w _
 have s0 : (w.alloc (.cells #[.string ⟨#[]⟩, .slice none 0 0, .int .i64 0] 75)).heap.size = w.heap.size + 1 := by simp
 obtain ⟨t, ht, hz, hn⟩ := hA.at
 simp only [zk, Prod.mk.injEq] at hz
 obtain ⟨hz1, hz2, hz3⟩ := hz
 have HZ := hide (Ya hz1 (Ya hz2 hn))
 have HT := hide ht
 have HNW : Hid (∀ w', Below w.heap.size w w' → Calls Try.prog 17 #[.pointer (some ⟨rb, 0, none⟩)] w' fun en w2 => en = .returned (.agg #[.int .i64 t.kind, str t.text, .int .i64 t.num, .int .i64 (t.at_ : Int)]) ∧ Below w'.heap.size w' w2) := fun w' bb => Qak (h.later bb) ht
 have HH := hide h
 have HX := hide (Ya hx hm)
 have H0 := hide (Ya b0 (Ya n0 s0))
 clear h ht hz1 hz2 hz3 hn hA hx hm b0 n0 s0
 go_enter Try.func92, Try.ntmps92
 go_wp2_with fail
 refine (Qa HNW _ (Qa H0).1).mono ?_
 rintro en w1 ⟨rfl, b1⟩
 obtain ⟨b0, n0, s0⟩ := Qa H0
 have hb1 := b0.trans (b1.mono (by omega))
 have n1 := (b1.block _ (by omega)).trans n0
 have hnm := Qje ((Qa HH).later hb1) (Qa HT) (Qa HZ).1
 have hrl := Qab (Qa HH).box
 have hgl := (Qa HH).row.lt
 have hs1 := b1.size
 have K1 := hide (Ya (Kp.of_below (rb := rb) hb1) (Ya n1 (show rb < w.heap.size ∧ g < w.heap.size ∧ w.heap.size < w1.heap.size by omega)))
 clear b1 b0 n0 s0 hb1 n1 hrl hgl hs1
 go_wp2_with fail
 rename_i hK
 refine hK _ _ ?_
 clear hK
 go_wp2_with fail
 refine hnm.mono ?_
 clear hnm
 rintro en w2 ⟨_, rfl, rfl, h2, k2⟩
 obtain ⟨k1, n1, g1, g2, g3⟩ := Qa K1
 have hs2 := k2.size
 have n2 := k2.keep n1 (by omega)
 obtain ⟨xb, hxb⟩ : ∃ xb, w2.heap.size = xb := ⟨_, rfl⟩
 obtain ⟨w3, hw3⟩ : ∃ w3, w3 = w2.alloc (.cells #[str t.text, .slice none 0 0, .int .i64 (t.at_ : Int)] 75) := ⟨_, rfl⟩
 have b3 : Below w2.heap.size w2 w3 := by rw [hw3]; exact (Below.refl _ w2).alloc (Nat.le_refl _) _
 have n3 : w3.heap[xb]? = some (.cells #[str t.text, .slice none 0 0, .int .i64 (t.at_ : Int)] 75 (0, 0)) := by rw [hw3, ← hxb]; exact heap_alloc_new w2 _
 have s3 : w3.heap.size = xb + 1 := by rw [hw3, ← hxb]; simp
 have q3 := (b3.block _ (by omega)).trans n2
 have hes := Qma (h2.later b3) Qgs Qle (Qa HX).1 (Qa HX).2 (Qa HZ).2.2
 have K3 := hide (Ya ((k1.trans k2).trans (Kp.of_below b3)) (Ya n3 (Ya q3 (Ya (show rb < w.heap.size ∧ g < w.heap.size ∧ w.heap.size < xb by omega) s3))))
 have HW3 := hide (Ya hw3 hxb)
 clear k1 n1 g1 g2 g3 hs2 n2 hxb hw3 b3 n3 s3 q3 h2 k2 K1
 go_wp2_with fail
 rw [← (Qa HW3).1, (Qa HW3).2]
 clear HW3
 refine hes.mono ?_
 clear hes
 rintro en w7 ⟨_, a7, rfl, ⟨ks, hks, heq⟩, h7, k7, hA7⟩
 obtain ⟨ka, kc, rfl⟩ := hks.sl
 obtain ⟨k3, n3, q3, ⟨g1, g2, g3⟩, s3⟩ := Qa K3
 have hs7 := k7.size
 have n7 := k7.keep n3 (by omega)
 have q7 := k7.keep q3 (by omega)
 have hne : w.heap.size ≠ xb := by omega
 obtain ⟨w8, hw8⟩ : ∃ w8, w8 = w7.setCell ⟨xb, 1, none⟩ (.slice ka ks.length kc) := ⟨_, rfl⟩
 have n8 : w8.heap[xb]? = some (.cells #[str t.text, .slice ka ks.length kc, .int .i64 (t.at_ : Int)] 75 (0, 0)) := by rw [hw8]; exact (Qah n7 1 _).trans rfl
 have o8 : ∀ q, q ≠ xb → w8.heap[q]? = w7.heap[q]? := fun q hq => by rw [hw8, hpS hq]
 have s8 : w8.heap.size = w7.heap.size := by rw [hw8]; simp
 have q8 := (o8 _ hne).trans q7
 have k8 : Kp rb w w8 := by rw [hw8]; exact (k3.trans k7).set2 (by omega)
 have h8 := h7.move (w' := w8) (by omega) (o8 rb (by omega)) (o8 g (by omega))
 have hL8 : LsAt PE 5 (fun b => w3.heap.size ≤ b) w8 (.slice ka ks.length kc) ks := hks.same Qae (by omega) (fun b hb hl => o8 b (by have hb' : w3.heap.size ≤ b := hb; omega))
 have hC := Ya heq hA7
 obtain ⟨x_0, x_1, x_2, xf⟩ := cl3 n7
 obtain ⟨z0, z1, z2, zf⟩ := cl3 n8
 obtain ⟨y0, y1, y2', yf⟩ := cl3 q8
 have HF : Hid (∀ q0 q1 q2, XB rb g cap l w d (fun w' v => ∃ x : Atm, VAm (fun b => w.heap.size ≤ b) w' v x ∧ eqA x ⟨s, xs, 0⟩ = true) rest i (.returned (.agg #[str t.text, .slice ka ks.length kc, .int .i64 (t.at_ : Int)])) (((w8.setCell ⟨w.heap.size, 0, none⟩ q0).setCell ⟨w.heap.size, 1, none⟩ q1).setCell ⟨w.heap.size, 2, none⟩ q2)) := fun q0 q1 q2 => by
  have hsame : ∀ b, b ≠ w.heap.size → (((w8.setCell ⟨w.heap.size, 0, none⟩ q0).setCell ⟨w.heap.size, 1, none⟩ q1).setCell ⟨w.heap.size, 2, none⟩ q2).heap[b]? = w8.heap[b]? := fun b hb => by
   rw [hpS hb, hpS hb, hpS hb]
  exact ⟨_, _, rfl, ⟨⟨t.text, ks, t.at_⟩, ⟨_, _, _, rfl, (hL8.same Qae (by simp [World.setCell]) (fun b hb hl => hsame b (by have hb' : w3.heap.size ≤ b := hb; omega))).mono Qae (fun b _ hb => by have hb' : w3.heap.size ≤ b := hb; omega)⟩, eqA_of (Qa HZ).2.1 hC.1⟩, h8.move (by simp [World.setCell]) (hsame rb (by omega)) (hsame g (by omega)), ((k8.set2 (by omega)).set2 (by omega)).set2 (by omega), hC.2⟩
 clear h7 k7 hks heq hA7 k3 n3 q3 g1 g2 g3 s3 hs7 n7 q7 n8 o8 s8 q8 k8 h8 hL8 hC K3 x_0 x_2 zf hne
 subst hw8
 go_wp2_with fail
 refine bodyPost_ret (v := .agg #[str t.text, .slice ka ks.length kc, .int .i64 t.at_]) (by simp [results, Try.results92, go_sem, y0, y1, y2']) rfl ?_
 exact Qa HF _ _ _
end
section
open Go.RowKit Go.Maps
def ltX (w : World) (w' : World) (v : Value) (x : Lt) : Prop := ∃ (c0 c1 c2 c3 c4 c5 c6 c7 c8 c9 c10 c11 c12 c13 c14 c15 : Value), v = .agg #[c0, c1, c2, c3, c4, c5, c6, c7, c8, c9, c10, c11, c12, c13, c14, c15] ∧ PLt (fun b => w.heap.size ≤ b) w' [c0, c1, c2, c3, c4, c5, c6, c7, c8, c9, c10, c11, c12, c13, c14, c15] x
theorem eqLt_of {am : Atm} {s : Txt} {xs : List Ex} (k : Int) (p : Int) (h : eqA am ⟨s, xs, 0⟩ = true) : eqLt ⟨k, am, [], .none, .none, p⟩ ⟨k, ⟨s, xs, 0⟩, [], .none, .none, 0⟩ = true := by
 unfold eqLt
 rw [h]
 simp [Ex.none, eqE, eqEs]
theorem Qdx (s t : Txt) : isSg (nmR s) t = false := by simp [isSg, nmR]
attribute [local go_sem ↓] Qbj Qbv
theorem Qpc {rb g cap a d i : Nat} {l : List Tok} {w : World} (h : Rr rb g cap l w a d i 0 0) {s : Txt} {K : Ex → List Tok} {xs : List Ex} (hx : ∀ x ∈ xs, YE 116 rb g cap l d Fole (K x) x ∧ ∃ t0 ks, K x = t0 :: ks ∧ isSg t0 [41] = false) (hm : xs.length ≤ 8) {rest : List Tok} (hA : Nxt l a (nmR s :: sgQ [40] :: (joinQ (xs.map K) ++ sgQ [41] :: rest))) :
  Calls Try.prog 93 #[.pointer (some ⟨rb, 0, none⟩)] w fun en w' => XB rb g cap l w d (fun w' v => ∃ x : Lt, ltX w w' v x ∧ eqLt x ⟨1, ⟨s, xs, 0⟩, [], .none, .none, 0⟩ = true) rest i en w' := by
 have b0 : Below w.heap.size w (w.alloc (.cells #[.int .i64 0, .string ⟨#[]⟩, .slice none 0 0, .int .i64 0, .string ⟨#[]⟩, .int .i64 0, .int .i64 0, .string ⟨#[]⟩, .slice none 0 0, .int .i64 0, .int .i64 0, .int .i64 0, .string ⟨#[]⟩, .slice none 0 0, .int .i64 0, .int .i64 0] 128)) := (Below.refl _ w).alloc (Nat.le_refl _) _
 have n0 : (w.alloc (.cells #[.int .i64 0, .string ⟨#[]⟩, .slice none 0 0, .int .i64 0, .string ⟨#[]⟩, .int .i64 0, .int .i64 0, .string ⟨#[]⟩, .slice none 0 0, .int .i64 0, .int .i64 0, .int .i64 0, .string ⟨#[]⟩, .slice none 0 0, .int .i64 0, .int .i64 0] 128)).heap[w.heap.size]? = some (.cells #[.int .i64 0, .string ⟨#[]⟩, .slice none 0 0, .int .i64 0, .string ⟨#[]⟩, .int .i64 0, .int .i64 0, .string ⟨#[]⟩, .slice none 0 0, .int .i64 0, .int .i64 0, .int .i64 0, .string ⟨#[]⟩, .slice none 0 0, .int .i64 0, .int .i64 0] 128 (0, 0)) := heap_alloc_new w _
 have s0 : (w.alloc (.cells #[.int .i64 0, .string ⟨#[]⟩, .slice none 0 0, .int .i64 0, .string ⟨#[]⟩, .int .i64 0, .int .i64 0, .string ⟨#[]⟩, .slice none 0 0, .int .i64 0, .int .i64 0, .int .i64 0, .string ⟨#[]⟩, .slice none 0 0, .int .i64 0, .int .i64 0] 128)).heap.size = w.heap.size + 1 := by simp
 obtain ⟨t, ht, hz, hn⟩ := hA.at
 have HA := hide hA
 have hnw := Qak (h.later b0) ht
 unfold tkA at hnw
 have hrl := Qab h.box
 have hgl := h.row.lt
 have HH := hide h
 have HT := hide ht
 have HX := hide (Ya hx hm)
 have H0 := hide (Ya b0 (Ya n0 s0))
 clear h ht hz hn hA hx hm b0 n0 s0
 go_enter Try.func93, Try.ntmps93
 go_wp2_with fail
 refine hnw.mono ?_
 clear hnw
 rintro en w1 ⟨rfl, b1⟩
 obtain ⟨b0, n0, s0⟩ := Qa H0
 obtain ⟨W3, hW3⟩ : ∃ W3, W3 = w1.alloc (.cells #[.int .i64 1, .string ⟨#[]⟩, .slice none 0 0, .int .i64 0, .string ⟨#[]⟩, .int .i64 0, .int .i64 0, .string ⟨#[]⟩, .slice none 0 0, .int .i64 0, .int .i64 0, .int .i64 0, .string ⟨#[]⟩, .slice none 0 0, .int .i64 0, .int .i64 (t.at_ : Int)] 128) := ⟨_, rfl⟩
 have hs1 := b1.size
 have b3 : Below w1.heap.size w1 W3 := by rw [hW3]; exact (Below.refl _ w1).alloc (Nat.le_refl _) _
 have m3 : W3.heap[w1.heap.size]? = some (.cells #[.int .i64 1, .string ⟨#[]⟩, .slice none 0 0, .int .i64 0, .string ⟨#[]⟩, .int .i64 0, .int .i64 0, .string ⟨#[]⟩, .slice none 0 0, .int .i64 0, .int .i64 0, .int .i64 0, .string ⟨#[]⟩, .slice none 0 0, .int .i64 0, .int .i64 (t.at_ : Int)] 128 (0, 0)) := by rw [hW3]; exact heap_alloc_new w1 _
 have z3 : W3.heap[w.heap.size]? = some (.cells #[.int .i64 0, .string ⟨#[]⟩, .slice none 0 0, .int .i64 0, .string ⟨#[]⟩, .int .i64 0, .int .i64 0, .string ⟨#[]⟩, .slice none 0 0, .int .i64 0, .int .i64 0, .int .i64 0, .string ⟨#[]⟩, .slice none 0 0, .int .i64 0, .int .i64 0] 128 (0, 0)) := ((b3.block _ (by omega)).trans (b1.block _ (by omega))).trans n0
 have bw3 : Below w.heap.size w W3 := (b0.trans (b1.mono (by omega))).trans (b3.mono (by omega))
 have S3 : (ltStore (.pointer (some ⟨w1.heap.size, 0, none⟩)) (.agg #[.int .i64 1, .string ⟨#[]⟩, .slice none 0 0, .int .i64 0, .string ⟨#[]⟩, .int .i64 0, .int .i64 0, .string ⟨#[]⟩, .slice none 0 0, .int .i64 0, .int .i64 0, .int .i64 0, .string ⟨#[]⟩, .slice none 0 0, .int .i64 0, .int .i64 (t.at_ : Int)])).run Try.prog (w1.alloc (.cells #[.int .i64 0, .string ⟨#[]⟩, .slice none 0 0, .int .i64 0, .string ⟨#[]⟩, .int .i64 0, .int .i64 0, .string ⟨#[]⟩, .slice none 0 0, .int .i64 0, .int .i64 0, .int .i64 0, .string ⟨#[]⟩, .slice none 0 0, .int .i64 0, .int .i64 0] 128)) = .ok () W3 := by rw [hW3]; exact run_storeAt_new w1 128 _ _ Qg rfl (by simp [Value.oneCell'])
 obtain ⟨ne, hne⟩ : ∃ ne, w1.heap.size = ne := ⟨_, rfl⟩
 have hmy := Qch (s := [33]) ((Qa HH).later bw3) (Qa HA) (Qdx _ _)
 rw [hne] at m3
 have H3 := hide (Ya (Kp.of_below (rb := rb) bw3) (Ya m3 z3))
 have HN := hide (show rb < w.heap.size ∧ g < w.heap.size ∧ w.heap.size < ne by omega)
 have HW := hide hne
 clear b0 n0 s0 b1 hW3 hs1 b3 m3 z3 bw3 hne H0
 go_wp2_with fail
 rename_i hK
 refine hK _ _ ?_
 clear hK
 go_wp2_with fail
 rw [Qa HW]
 clear S3
 refine hmy.mono ?_
 clear hmy
 rintro en w4 ⟨_, a4, rfl, rfl, h4, k4, n4⟩
 have hm4 := Qa HN
 have m4 := k4.keep (Qa H3).2.1 (by omega)
 have H4 := hide (Ya h4 (Ya ((Qa H3).1.trans k4) (Ya m4 (Ya (k4.keep (Qa H3).2.2 (by omega)) (Qab m4)))))
 have HN4 := hide n4
 clear h4 k4 hm4 m4 n4 H3
 obtain ⟨u, hu, zu, nu⟩ := (Qa HN4).at
 obtain ⟨v, hv, zv, _⟩ := nu.at
 simp only [zk, nmR, Prod.mk.injEq] at zu
 simp only [zk, sgQ, Prod.mk.injEq] at zv
 have gu : (u.kind == 1) = true := by rw [zu.1]; rfl
 have gv : (v.kind == 4) = true := by rw [zv.1]; rfl
 have gt : (v.text == [40]) = true := by rw [zv.2.1]; rfl
 have hv2 : l[min (a4 + 1) (l.length - 1)]? = some v := by
  have hl := (List.getElem?_eq_some_iff.1 hv).1
  rw [Nat.min_eq_left (by omega)]; exact hv
 have HU := hide hu
 have HV := hide hv2
 clear hu hv hv2 zu zv nu
 go_upto_region 6 with fail
 go_cut [32] from 17 to 32 (fun c wc => c = .bool true ∧ Hid (Rr rb g cap l wc a4 d i 0 0 ∧ Kp rb w wc ∧ wc.heap[ne]? = some (.cells #[.int .i64 1, .string ⟨#[]⟩, .slice none 0 0, .int .i64 0, .string ⟨#[]⟩, .int .i64 0, .int .i64 0, .string ⟨#[]⟩, .slice none 0 0, .int .i64 0, .int .i64 0, .int .i64 0, .string ⟨#[]⟩, .slice none 0 0, .int .i64 0, .int .i64 (t.at_ : Int)] 128 (0, 0)) ∧ wc.heap[w.heap.size]? = some (.cells #[.int .i64 0, .string ⟨#[]⟩, .slice none 0 0, .int .i64 0, .string ⟨#[]⟩, .int .i64 0, .int .i64 0, .string ⟨#[]⟩, .slice none 0 0, .int .i64 0, .int .i64 0, .int .i64 0, .string ⟨#[]⟩, .slice none 0 0, .int .i64 0, .int .i64 0] 128 (0, 0)) ∧ ne < wc.heap.size))
 case first =>
  have hcl := Qak (Qa H4).1 (Qa HU)
  unfold tkA at hcl
  go_wp2_with fail
  refine hcl.mono ?_
  clear hcl
  rintro en w5 ⟨rfl, b5⟩
  have hm5 := Qa HN
  have m5 := (Kp.of_below (rb := rb) b5).keep (Qa H4).2.2.1 (by omega)
  have H5 := hide (Ya ((Qa H4).1.later b5) (Ya ((Qa H4).2.1.trans (Kp.of_below b5)) (Ya m5 (Ya ((Kp.of_below (rb := rb) b5).keep (Qa H4).2.2.2.1 (by omega)) (Qab m5)))))
  clear b5 hm5 m5
  go_wp2_with fail
  rename_i hK
  refine hK _ _ ?_
  clear hK
  have hcl := Qbs (Qa H5).1 (Qa HV)
  unfold tkA at hcl
  go_wp2_with fail
  refine hcl.mono ?_
  clear hcl
  rintro en w7 ⟨rfl, b7⟩
  have hm7 := Qa HN
  have m7 := (Kp.of_below (rb := rb) b7).keep (Qa H5).2.2.1 (by omega)
  have H7 := hide (Ya ((Qa H5).1.later b7) (Ya ((Qa H5).2.1.trans (Kp.of_below b7)) (Ya m7 (Ya ((Kp.of_below (rb := rb) b7).keep (Qa H5).2.2.2.1 (by omega)) (Qab m7)))))
  clear b7 hm7 m7
  go_wp2_with fail
  rename_i hK
  refine hK _ _ ?_
  clear hK
  have hcl := Qbs (Qa H7).1 (Qa HV)
  unfold tkA at hcl
  go_wp2_with fail
  refine hcl.mono ?_
  clear hcl
  rintro en w8 ⟨rfl, b8⟩
  have hm8 := Qa HN
  have m8 := (Kp.of_below (rb := rb) b8).keep (Qa H7).2.2.1 (by omega)
  have H8 := hide (Ya ((Qa H7).1.later b8) (Ya ((Qa H7).2.1.trans (Kp.of_below b8)) (Ya m8 (Ya ((Kp.of_below (rb := rb) b8).keep (Qa H7).2.2.2.1 (by omega)) (Qab m8)))))
  clear b8 hm8 m8
  go_wp2_with fail
  rename_i hK
  refine hK _ _ ?_
  clear hK
  go_wp2_with fail
  go_meet
  exact ⟨rfl, H8⟩
 obtain ⟨rfl, H5⟩ := hcut
 obtain ⟨w5, hw5⟩ : ∃ w5, w5 = wc := ⟨_, rfl⟩
 subst hw5
 clear H4
 have hm7 := Qa HN
 obtain ⟨h7, kw7, m7, z7, hlm⟩ := Qa H5
 obtain ⟨x_0, x_1, x_2, x_3, x_4, x_5, x_6, x_7, x_8, x_9, x_10, x_11, x_12, x_13, x_14, x_15, xf⟩ := cl16 m7
 obtain ⟨WB, hWB⟩ : ∃ WB, WB = w5 := ⟨_, rfl⟩
 have mB : WB.heap[ne]? = some (.cells #[.int .i64 1, .string ⟨#[]⟩, .slice none 0 0, .int .i64 0, .string ⟨#[]⟩, .int .i64 0, .int .i64 0, .string ⟨#[]⟩, .slice none 0 0, .int .i64 0, .int .i64 0, .int .i64 0, .string ⟨#[]⟩, .slice none 0 0, .int .i64 0, .int .i64 (t.at_ : Int)] 128 (0, 0)) := by rw [hWB]; exact m7
 have oB : ∀ q, q ≠ ne → WB.heap[q]? = w5.heap[q]? := fun q _ => by rw [hWB]
 have sB : WB.heap.size = w5.heap.size := by rw [hWB]
 have hBr := h7.move (w' := WB) (by omega) (oB rb (by omega)) (oB g (by omega))
 have kB : Kp rb w WB := ⟨by rw [hWB]; exact kw7.os, by rw [hWB]; exact kw7.tape, by rw [hWB]; exact kw7.output, by rw [sB]; exact kw7.size, fun q hq hn => (oB q (by omega)).trans (kw7.block q hq hn)⟩
 have hat := Qjg hBr (Qa HX).1 (Qa HX).2 (Qa HN4)
 have HB8 := hide (Ya kB (Ya mB (Ya ((oB _ (by omega)).trans z7) (show ne < WB.heap.size by omega))))
 have HWB := hide hWB
 clear h7 kw7 m7 z7 hlm hm7 hWB mB oB sB hBr kB
 go_wp2_with fail
 rw [← Qa HWB]
 clear HWB x_0 x_1 x_2 x_3 x_4 x_5 x_6 x_7 x_8 x_9 x_10 x_11 x_12 x_13 x_14 x_15 xf
 refine hat.mono ?_
 clear hat
 rintro en w9 ⟨_, a9, rfl, ⟨am, ⟨aa, an, ac, rfl, hks⟩, heq⟩, hv, k9, n9⟩
 obtain ⟨kB, mB, zB, hlB⟩ := Qa HB8
 have hm9 := Qa HN
 have kv := kB.trans k9
 have mv := k9.keep mB (by omega)
 have zv := k9.keep zB (by omega)
 have hC := Ya (eqLt_of 1 t.at_ heq) n9
 have HAM := hide (Ya hks hlB)
 clear kB mB zB hlB hm9 k9 hks heq n9
 obtain ⟨x_0, x_1, x_2, x_3, x_4, x_5, x_6, x_7, x_8, x_9, x_10, x_11, x_12, x_13, x_14, x_15, xf⟩ := cl16 mv
 obtain ⟨WX, hWX⟩ : ∃ WX, WX = (((w9.setCell ⟨ne, 1, none⟩ (str am.rel)).setCell ⟨ne, 2, none⟩ (.slice aa an ac)).setCell ⟨ne, 3, none⟩ (.int .i64 am.at_)) := ⟨_, rfl⟩
 have mX : WX.heap[ne]? = some (.cells #[.int .i64 1, str am.rel, .slice aa an ac, .int .i64 am.at_, .string ⟨#[]⟩, .int .i64 0, .int .i64 0, .string ⟨#[]⟩, .slice none 0 0, .int .i64 0, .int .i64 0, .int .i64 0, .string ⟨#[]⟩, .slice none 0 0, .int .i64 0, .int .i64 (t.at_ : Int)] 128 (0, 0)) := by rw [hWX]; exact (Qah (Qah (Qah mv 1 _) 2 _) 3 _).trans rfl
 have oX : ∀ q, q ≠ ne → WX.heap[q]? = w9.heap[q]? := fun q hq => by rw [hWX, hpS hq, hpS hq, hpS hq]
 have sX : WX.heap.size = w9.heap.size := by rw [hWX]; simp
 obtain ⟨e1, e2, e4⟩ := Qa HN
 have zX := (oX w.heap.size (by omega)).trans zv
 have L5 := Qnk mX
 have S5 := Qkj (new := #[.int .i64 1, str am.rel, .slice aa an ac, .int .i64 am.at_, .string ⟨#[]⟩, .int .i64 0, .int .i64 0, .string ⟨#[]⟩, .slice none 0 0, .int .i64 0, .int .i64 0, .int .i64 0, .string ⟨#[]⟩, .slice none 0 0, .int .i64 0, .int .i64 (t.at_ : Int)]) zX rfl rfl (by simp [Value.oneCell', str])
 obtain ⟨w6, hw6⟩ : ∃ w6, w6 = WX.setRow w.heap.size #[.int .i64 1, str am.rel, .slice aa an ac, .int .i64 am.at_, .string ⟨#[]⟩, .int .i64 0, .int .i64 0, .string ⟨#[]⟩, .slice none 0 0, .int .i64 0, .int .i64 0, .int .i64 0, .string ⟨#[]⟩, .slice none 0 0, .int .i64 0, .int .i64 (t.at_ : Int)] := ⟨_, rfl⟩
 rw [← hw6] at S5
 have o6 : ∀ q, q ≠ w.heap.size → w6.heap[q]? = WX.heap[q]? := fun q hq => by rw [hw6]; exact setRow_other _ _ _ _ hq
 have s6 : w6.heap.size = WX.heap.size := by rw [hw6, size_setRow]
 have z6 : w6.heap[w.heap.size]? = some (.cells #[.int .i64 1, str am.rel, .slice aa an ac, .int .i64 am.at_, .string ⟨#[]⟩, .int .i64 0, .int .i64 0, .string ⟨#[]⟩, .slice none 0 0, .int .i64 0, .int .i64 0, .int .i64 0, .string ⟨#[]⟩, .slice none 0 0, .int .i64 0, .int .i64 (t.at_ : Int)] 128 (0, 0)) := by rw [hw6]; exact setRow_heap _ _ _ _ _ _ zX
 have h6 := hv.move (w' := w6) (by omega) ((o6 rb (by omega)).trans (oX rb (by omega))) ((o6 g (by omega)).trans (oX g (by omega)))
 have kX : Kp rb w WX := by rw [hWX]; exact (((kv.set2 (by omega)).set2 (by omega)).set2 (by omega))
 have k6 : Kp rb w w6 := by rw [hw6]; exact kX.row (Nat.le_refl _)
 have hx6 : PLt (fun b => w.heap.size ≤ b) w6 [.int .i64 1, str am.rel, .slice aa an ac, .int .i64 am.at_, .string ⟨#[]⟩, .int .i64 0, .int .i64 0, .string ⟨#[]⟩, .slice none 0 0, .int .i64 0, .int .i64 0, .int .i64 0, .string ⟨#[]⟩, .slice none 0 0, .int .i64 0, .int .i64 (t.at_ : Int)] (⟨1, am, [], .none, .none, t.at_⟩) := ⟨aa, an, ac, none, 0, 0, none, 0, 0, rfl, ((Qa HAM).1.same Qae (by have := (Qa HAM).2; omega) (fun q hq _ => (o6 q (by have hq' : WB.heap.size ≤ q := hq; have := (Qa HAM).2; omega)).trans (oX q (by have hq' : WB.heap.size ≤ q := hq; have := (Qa HAM).2; omega)))).mono Qae (fun b _ hb => by have hb' : WB.heap.size ≤ b := hb; have := (Qa HAM).2; omega), Qdl _ _, Qdl _ _⟩
 have HF := hide (Ya h6 (Ya k6 (Ya z6 (Ya hx6 (hC)))))
 clear hv kv mv zv mX oX sX e1 e2 e4 zX hw6 o6 s6 z6 h6 kX k6 hx6 hC HAM
 subst hWX
 go_wp2_with fail
 obtain ⟨h6, k6, z6, hx6, hY6⟩ := Qa HF
 obtain ⟨z_0, z_1, z_2, z_3, z_4, z_5, z_6, z_7, z_8, z_9, z_10, z_11, z_12, z_13, z_14, z_15, zf⟩ := cl16 z6
 refine bodyPost_ret (v := .agg #[.int .i64 1, str am.rel, .slice aa an ac, .int .i64 am.at_, .string ⟨#[]⟩, .int .i64 0, .int .i64 0, .string ⟨#[]⟩, .slice none 0 0, .int .i64 0, .int .i64 0, .int .i64 0, .string ⟨#[]⟩, .slice none 0 0, .int .i64 0, .int .i64 (t.at_ : Int)]) (by simp [results, Try.results93, go_sem, z_0, z_1, z_2, z_3, z_4, z_5, z_6, z_7, z_8, z_9, z_10, z_11, z_12, z_13, z_14, z_15]) rfl ?_
 exact ⟨_, _, rfl, ⟨_, ⟨_, _, _, _, _, _, _, _, _, _, _, _, _, _, _, _, rfl, hx6⟩, hY6.1⟩, h6, k6, hY6.2⟩
end
end Go.Proofs.Ytfmbpaoapjmdnaa
