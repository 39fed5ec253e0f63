/- The document's reader: expr and factor, where what they call is told. -/
import Derived.Test.YtfmbpaoapjmdnaaQb10
set_option maxRecDepth 100000
set_option maxHeartbeats 32000000
namespace Go.Proofs.Ytfmbpaoapjmdnaa
section
open Go.RowKit Go.Maps
theorem Qcf {w : World} {b : Nat} {c0 c1 c2 c3 c4 : Value} (h : w.heap[b]? = some (.cells #[c0, c1, c2, c3, c4] 126 (0, 0))) : (qeLoad (.pointer (some ⟨b, 0, none⟩))).run Try.prog w = .ok (.agg #[c0, c1, c2, c3, c4]) w :=
 run_loadAt_mid w b 0 126 [c0, c1, c2, c3, c4] _ (fun q v hq => by rw [Qaf h, Nat.zero_add]; simpa using hq) Try.underlying126 rfl (by kernel_rfl)
theorem Qbc {w : World} {b : Nat} {old new : Array Value} (hb : w.heap[b]? = some (.cells old 126 (0, 0))) (h0 : old.size = 5) (hn : new.size = 5) (h1 : new.all (·.oneCell') = true) : (qeStore (.pointer (some ⟨b, 0, none⟩)) (.agg new)).run Try.prog w = .ok () (w.setRow b new) := by
 unfold qeStore
 simp only [Instr.storeAt, Instr.sureAddr, Sem.run_bind, Sem.run_pure, Result.andThen_ok]
 exact run_storeVar_row w b 126 126 old new hb (by rw [hn]; kernel_rfl) (by rw [h0, hn]) h1
theorem Qck (n : Nat) (h : n ≤ 65537) : IntKind.i64.wrap (n : Int) = (n : Int) := by
 have e1 : (2 : Int) ^ IntKind.i64.bits = 18446744073709551616 := by decide
 have e2 : (2 : Int) ^ (IntKind.i64.bits - 1) = 9223372036854775808 := by decide
 have e3 : (n : Int) % 18446744073709551616 = (n : Int) := by omega
 unfold IntKind.wrap
 simp only [e1, e2, e3]
 rw [if_neg (by simp; intro _; omega)]
attribute [local go_sem ↓] Qbk Qbw
theorem Qkp {rb g cap a d i : Nat} {l : List Tok} {w : World} {y f : Int} (h : Rr rb g cap l w a d i y f) (hd : d < 64) (hI : d < 32 → ExC 127 rb g cap l (d + 1) #[.pointer (some ⟨rb, 0, none⟩), .int .i64 0]) :
  Calls Try.prog 116 #[.pointer (some ⟨rb, 0, none⟩)] w fun en w' => RA rb g cap l w d (exV w) (CoY a i y) en w' := by
 have b0 : Below w.heap.size w (w.alloc (.cells #[.int .i64 0, .int .i64 0, .string ⟨#[]⟩, .slice none 0 0, .int .i64 0] 126)) := (Below.refl _ w).alloc (Nat.le_refl _) _
 have n0 : (w.alloc (.cells #[.int .i64 0, .int .i64 0, .string ⟨#[]⟩, .slice none 0 0, .int .i64 0] 126)).heap[w.heap.size]? = some (.cells #[.int .i64 0, .int .i64 0, .string ⟨#[]⟩, .slice none 0 0, .int .i64 0] 126 (0, 0)) := heap_alloc_new w _
 have s0 : (w.alloc (.cells #[.int .i64 0, .int .i64 0, .string ⟨#[]⟩, .slice none 0 0, .int .i64 0] 126)).heap.size = w.heap.size + 1 := by simp
 have hen := Qeu (h.later b0) hd
 have hrl := Qab h.box
 have hgl := h.row.lt
 have HGN := hide (show g ≠ w.heap.size by omega)
 have HB0 := hide (Ya b0 (Ya n0 s0))
 have HI := hide hI
 clear h b0 n0 s0 hI
 go_enter Try.func116, Try.ntmps116
 go_wp2_with fail
 refine hen.mono ?_
 clear hen
 rintro en w1 ⟨_, a1, i1, y1, f1, rfl, rfl, ⟨ea, ei, hy1⟩, h1, k1⟩
 rw [ea, ei] at h1
 clear ea ei
 obtain ⟨b0, n0, s0⟩ := Qa HB0
 have hs1 := k1.size
 obtain ⟨nb, hnb⟩ : ∃ nb, w1.heap.size = nb := ⟨_, rfl⟩
 obtain ⟨w2, hw2⟩ : ∃ w2, w2 = w1.alloc (.cells #[.int .i64 0, .int .i64 0, .string ⟨#[]⟩, .slice none 0 0, .int .i64 0] 126) := ⟨_, rfl⟩
 have b2 : Below w1.heap.size w1 w2 := by rw [hw2]; exact (Below.refl _ w1).alloc (Nat.le_refl _) _
 have nb2 : w2.heap[nb]? = some (.cells #[.int .i64 0, .int .i64 0, .string ⟨#[]⟩, .slice none 0 0, .int .i64 0] 126 (0, 0)) := by rw [hw2, ← hnb]; exact heap_alloc_new w1 _
 have s2 : w2.heap.size = w1.heap.size + 1 := by rw [hw2]; simp
 have n02 : w2.heap[w.heap.size]? = some (.cells #[.int .i64 0, .int .i64 0, .string ⟨#[]⟩, .slice none 0 0, .int .i64 0] 126 (0, 0)) := (b2.block _ (by omega)).trans (k1.keep n0 (by omega))
 have h2 := h1.later b2
 have k2 : Kp rb w w2 := ((Kp.of_below b0).trans k1).trans (Kp.of_below b2)
 have hwl := Qao h2
 have hsn : w.heap.size < nb := by omega
 have HNB := hide (show nb ≠ rb ∧ w.heap.size ≠ rb ∧ nb ≠ w.heap.size by omega)
 have H2 := hide (Ya h2 (Ya k2 (Ya nb2 (Ya n02 (Ya s2 (Ya hnb hsn))))))
 have HW2 := hide hw2
 have HY1 := hide hy1
 have N2 := Qdv w1 (c0 := .int .i64 0) (c1 := .int .i64 0) (c2 := .string ⟨#[]⟩) (c3 := .slice none 0 0) (c4 := .int .i64 0) (by simp [Value.oneCell'])
 clear b0 n0 s0 hs1 hsn hnb hw2 b2 nb2 s2 n02 h2 k2 h1 k1 hy1 HB0
 go_wp2_with fail
 rw [← Qa HW2, (Qa H2).2.2.2.2.2.1]
 clear HW2 N2
 by_cases hy : y1 = 0
 ·
  rw [decide_eq_true hy] at hwl
  have hin := Qa HI (Qa HY1 hy).2 _ _ _ _ _ (Qa H2).1
  have HY := hide (Qa HY1 hy)
  clear hy
  refine hwl.mono ?_
  clear hwl
  rintro en w2q ⟨rfl, rfl⟩
  go_wp2_with fail
  refine hin.mono ?_
  clear hin
  rintro en w3 ⟨_, aX, i3, yX, fX, rfl, ⟨x3, _, rfl, ⟨ka, kn, kc, rfl⟩, hx3⟩, ⟨ei, ha3, hy3⟩, h3, k3⟩
  rw [ei] at h3
  clear ei
  obtain ⟨h2, k2, nb2, n02, s2, hnb, hs1⟩ := Qa H2
  obtain ⟨e1, e2, e3⟩ := Qa HNB
  have hs3 := k3.size
  have m3 := k3.keep nb2 e1
  have z3 := k3.keep n02 e2
  have S3 := Qbc (new := #[.int .i64 x3.kind, .int .i64 x3.num, str x3.txt, .slice ka kn kc, .int .i64 x3.at_]) m3 rfl rfl (by simp [Value.oneCell', str])
  obtain ⟨WX, hWX⟩ : ∃ WX, WX = w3.setRow nb #[.int .i64 x3.kind, .int .i64 x3.num, str x3.txt, .slice ka kn kc, .int .i64 x3.at_] := ⟨_, rfl⟩
  rw [← hWX] at S3
  have oX : ∀ q, q ≠ nb → WX.heap[q]? = w3.heap[q]? := fun q hq => by rw [hWX]; exact setRow_other _ _ _ _ hq
  have sX : WX.heap.size = w3.heap.size := by rw [hWX, size_setRow]
  have mX : WX.heap[nb]? = some (.cells #[.int .i64 x3.kind, .int .i64 x3.num, str x3.txt, .slice ka kn kc, .int .i64 x3.at_] 126 (0, 0)) := by rw [hWX]; exact setRow_heap _ _ _ _ _ _ m3
  have hX := h3.move (w' := WX) (by omega) (oX rb e1.symm) (oX g (by omega))
  have kX : Kp rb w WX := ⟨by rw [hWX]; exact (k2.trans k3).os, by rw [hWX]; exact (k2.trans k3).tape, by rw [hWX]; exact (k2.trans k3).output, by rw [sX]; exact (k2.trans k3).size, fun q hq hn => (oX q (by omega)).trans ((k2.trans k3).block q hq hn)⟩
  have hxX : ExS (fun b => w.heap.size ≤ b ∧ b ≠ rb ∧ b ≠ w.heap.size) WX [.int .i64 x3.kind, .int .i64 x3.num, str x3.txt, .slice ka kn kc, .int .i64 x3.at_] x3 := by
   have q1 := Qae.same _ _ WX _ _ (Qae.mono _ (fun b => w2q.heap.size ≤ b) _ _ _ hx3 (fun b _ hb => hb)) (by omega) (fun b hb hl => oX b (by omega))
   exact Qae.mono _ _ _ _ _ q1 (fun b _ hb => ⟨by omega, by omega, by omega⟩)
  have XX := hide (Ya hX (Ya kX (Ya mX (Ya ((oX _ e3.symm).trans z3) (Ya hxX (show CoY a i y aX i yX from ⟨rfl, by omega, fun e => ⟨(Qa HY).1, (hy3 e).2⟩⟩))))))
  obtain ⟨xX, hxe⟩ : ∃ xX, xX = x3 := ⟨_, rfl⟩
  rw [← hxe] at XX S3
  rw [← hxe]
  clear hx3 ha3 hy3 h3 k3 h2 k2 nb2 n02 s2 hnb hs1 e1 e2 e3 hs3 m3 z3 hWX oX sX mX hX kX hxX hxe H2 HI HY1
  obtain ⟨h4, k4, m4, z4, hx4, hY4⟩ := Qa XX
  obtain ⟨x_0, x_1, x_2, x_3, x_4, x_5, xf⟩ := cl6 h4.box
  obtain ⟨w5, hw5⟩ : ∃ w5, w5 = WX.setCell ⟨rb, 2, none⟩ (.int .i64 (d : Int)) := ⟨_, rfl⟩
  have h5 : Rr rb g cap l w5 aX d i yX fX := by rw [hw5]; exact h4.setD (by have := h4.dd; omega)
  have k5 : Kp rb w w5 := by rw [hw5]; exact k4.trans (Kp.set _ _ _ _)
  have o5 : ∀ q, q ≠ rb → w5.heap[q]? = WX.heap[q]? := fun q hq => by rw [hw5]; exact hpS hq
  have s5 : w5.heap.size = WX.heap.size := by rw [hw5]; simp
  obtain ⟨hnb, hn0, hne⟩ := Qa HNB
  have m5 := (o5 nb hnb).trans m4
  have z5 := (o5 w.heap.size hn0).trans z4
  have L5 := Qcf m5
  have S5 := Qbc (new := #[.int .i64 xX.kind, .int .i64 xX.num, str xX.txt, .slice ka kn kc, .int .i64 xX.at_]) z5 rfl rfl (by simp [Value.oneCell', str])
  obtain ⟨w6, hw6⟩ : ∃ w6, w6 = w5.setRow w.heap.size #[.int .i64 xX.kind, .int .i64 xX.num, str xX.txt, .slice ka kn kc, .int .i64 xX.at_] := ⟨_, rfl⟩
  rw [← hw6] at S5
  have o6 : ∀ q, q ≠ w.heap.size → w6.heap[q]? = w5.heap[q]? := fun q hq => by rw [hw6]; exact setRow_other _ _ _ _ hq
  have s6 : w6.heap.size = w5.heap.size := by rw [hw6, size_setRow]
  have z6 : w6.heap[w.heap.size]? = some (.cells #[.int .i64 xX.kind, .int .i64 xX.num, str xX.txt, .slice ka kn kc, .int .i64 xX.at_] 126 (0, 0)) := by rw [hw6]; exact setRow_heap _ _ _ _ _ _ z5
  have h6 := h5.move (w' := w6) (by omega) (o6 rb hn0.symm) (o6 g (Qa HGN))
  have k6 : Kp rb w w6 := ⟨by rw [hw6]; exact k5.os, by rw [hw6]; exact k5.tape, by rw [hw6]; exact k5.output, by rw [s6]; exact k5.size, fun q hq hn => (o6 q (by omega)).trans (k5.block q hq hn)⟩
  have hx6 : ExS (fun b => w.heap.size ≤ b) w6 [.int .i64 xX.kind, .int .i64 xX.num, str xX.txt, .slice ka kn kc, .int .i64 xX.at_] xX := by
   have q1 := Qae.same _ _ w6 _ _ hx4 (by omega) (fun b hb hl => (o6 b hb.2.2).trans (o5 b hb.2.1))
   exact Qae.mono _ _ _ _ _ q1 (fun b _ hb => hb.1)
  have HF := hide (Ya h6 (Ya k6 (Ya z6 hx6)))
  have hsb : IntKind.i64.wrap ((d : Int) + 1 - 1) = (d : Int) := by rw [show (d : Int) + 1 - 1 = (d : Int) by omega]; exact Qck d (by have := h4.dd; omega)
  have hdd := h4.dd
  clear h4 k4 m4 z4 hx4 h5 k5 o5 s5 hnb hn0 hne m5 z5 o6 s6 z6 h6 k6 hx6 hw6
  subst hw5
  go_wp2_with fail
  obtain ⟨h6, k6, z6, hx6⟩ := Qa HF
  obtain ⟨z_0, z_1, z_2, z_3, z_4, zf⟩ := ex5 z6
  refine bodyPost_ret (v := .agg #[.int .i64 xX.kind, .int .i64 xX.num, str xX.txt, .slice ka kn kc, .int .i64 xX.at_]) (by simp [results, Try.results116, go_sem, z_0, z_1, z_2, z_3, z_4]) rfl ?_
  exact ⟨_, _, _, _, _, rfl, ⟨xX, _, rfl, ⟨_, _, _, rfl⟩, hx6⟩, hY4, h6, k6⟩
 rw [decide_eq_false hy] at hwl
 obtain ⟨WX, hWX⟩ : ∃ WX, WX = w2 := ⟨_, rfl⟩
 obtain ⟨h2, k2, nb2, n02, s2, hnb, hs1⟩ := Qa H2
 obtain ⟨e1, e2, e3⟩ := Qa HNB
 obtain ⟨yX, hyX⟩ : ∃ yX, yX = y1 := ⟨_, rfl⟩
 obtain ⟨fX, hfX⟩ : ∃ fX, fX = f1 := ⟨_, rfl⟩
 obtain ⟨aX, haX⟩ : ∃ aX, aX = a := ⟨_, rfl⟩
 obtain ⟨xX, hxX⟩ : ∃ xX, xX = Ex.none := ⟨_, rfl⟩
 have hx0 : ExS (fun b => w.heap.size ≤ b ∧ b ≠ rb ∧ b ≠ w.heap.size) w2 [.int .i64 xX.kind, .int .i64 xX.num, str xX.txt, .slice none 0 0, .int .i64 xX.at_] xX := by rw [hxX]; exact Qbu _ _ 0 0 0 []
 have nb3 : w2.heap[nb]? = some (.cells #[.int .i64 xX.kind, .int .i64 xX.num, str xX.txt, .slice none 0 0, .int .i64 xX.at_] 126 (0, 0)) := by rw [hxX]; exact nb2
 have XX := hide (Ya h2 (Ya k2 (Ya nb3 (Ya n02 (Ya hx0 (show CoY a i y a i y1 from ⟨rfl, Nat.le_refl _, fun e => absurd e hy⟩))))))
 clear hy h2 k2 nb2 n02 s2 hnb hs1 e1 e2 e3 hx0 nb3 H2 HI HY1 hxX
 refine hwl.mono ?_
 clear hwl
 rintro en w2q ⟨rfl, rfl⟩
 rw [← hWX, ← hyX, ← hfX] at XX
 rw [← hWX]
 clear hWX hyX hfX
 subst haX
 obtain ⟨h4, k4, m4, z4, hx4, hY4⟩ := Qa XX
 obtain ⟨x_0, x_1, x_2, x_3, x_4, x_5, xf⟩ := cl6 h4.box
 obtain ⟨w5, hw5⟩ : ∃ w5, w5 = WX.setCell ⟨rb, 2, none⟩ (.int .i64 (d : Int)) := ⟨_, rfl⟩
 have h5 : Rr rb g cap l w5 aX d i yX fX := by rw [hw5]; exact h4.setD (by have := h4.dd; omega)
 have k5 : Kp rb w w5 := by rw [hw5]; exact k4.trans (Kp.set _ _ _ _)
 have o5 : ∀ q, q ≠ rb → w5.heap[q]? = WX.heap[q]? := fun q hq => by rw [hw5]; exact hpS hq
 have s5 : w5.heap.size = WX.heap.size := by rw [hw5]; simp
 obtain ⟨hnb, hn0, hne⟩ := Qa HNB
 have m5 := (o5 nb hnb).trans m4
 have z5 := (o5 w.heap.size hn0).trans z4
 have L5 := Qcf m5
 have S5 := Qbc (new := #[.int .i64 xX.kind, .int .i64 xX.num, str xX.txt, .slice none 0 0, .int .i64 xX.at_]) z5 rfl rfl (by simp [Value.oneCell', str])
 obtain ⟨w6, hw6⟩ : ∃ w6, w6 = w5.setRow w.heap.size #[.int .i64 xX.kind, .int .i64 xX.num, str xX.txt, .slice none 0 0, .int .i64 xX.at_] := ⟨_, rfl⟩
 rw [← hw6] at S5
 have o6 : ∀ q, q ≠ w.heap.size → w6.heap[q]? = w5.heap[q]? := fun q hq => by rw [hw6]; exact setRow_other _ _ _ _ hq
 have s6 : w6.heap.size = w5.heap.size := by rw [hw6, size_setRow]
 have z6 : w6.heap[w.heap.size]? = some (.cells #[.int .i64 xX.kind, .int .i64 xX.num, str xX.txt, .slice none 0 0, .int .i64 xX.at_] 126 (0, 0)) := by rw [hw6]; exact setRow_heap _ _ _ _ _ _ z5
 have h6 := h5.move (w' := w6) (by omega) (o6 rb hn0.symm) (o6 g (Qa HGN))
 have k6 : Kp rb w w6 := ⟨by rw [hw6]; exact k5.os, by rw [hw6]; exact k5.tape, by rw [hw6]; exact k5.output, by rw [s6]; exact k5.size, fun q hq hn => (o6 q (by omega)).trans (k5.block q hq hn)⟩
 have hx6 : ExS (fun b => w.heap.size ≤ b) w6 [.int .i64 xX.kind, .int .i64 xX.num, str xX.txt, .slice none 0 0, .int .i64 xX.at_] xX := by
  have q1 := Qae.same _ _ w6 _ _ hx4 (by omega) (fun b hb hl => (o6 b hb.2.2).trans (o5 b hb.2.1))
  exact Qae.mono _ _ _ _ _ q1 (fun b _ hb => hb.1)
 have HF := hide (Ya h6 (Ya k6 (Ya z6 hx6)))
 have hsb : IntKind.i64.wrap ((d : Int) + 1 - 1) = (d : Int) := by rw [show (d : Int) + 1 - 1 = (d : Int) by omega]; exact Qck d (by have := h4.dd; omega)
 have hdd := h4.dd
 clear h4 k4 m4 z4 hx4 h5 k5 o5 s5 hnb hn0 hne m5 z5 o6 s6 z6 h6 k6 hx6 hw6
 subst hw5
 go_wp2_with fail
 obtain ⟨h6, k6, z6, hx6⟩ := Qa HF
 obtain ⟨z_0, z_1, z_2, z_3, z_4, zf⟩ := ex5 z6
 refine bodyPost_ret (v := .agg #[.int .i64 xX.kind, .int .i64 xX.num, str xX.txt, .slice none 0 0, .int .i64 xX.at_]) (by simp [results, Try.results116, go_sem, z_0, z_1, z_2, z_3, z_4]) rfl ?_
 exact ⟨_, _, _, _, _, rfl, ⟨xX, _, rfl, ⟨_, _, _, rfl⟩, hx6⟩, hY4, h6, k6⟩
theorem Qgz {rb g cap a d i : Nat} {l : List Tok} {w : World} {y f : Int} (h : Rr rb g cap l w a d i y f) (hd : d < 64) (hI : d < 32 → ExC 149 rb g cap l (d + 1) #[.pointer (some ⟨rb, 0, none⟩)]) :
  Calls Try.prog 138 #[.pointer (some ⟨rb, 0, none⟩)] w fun en w' => RA rb g cap l w d (exV w) (CoY a i y) en w' := by
 have b0 : Below w.heap.size w (w.alloc (.cells #[.int .i64 0, .int .i64 0, .string ⟨#[]⟩, .slice none 0 0, .int .i64 0] 126)) := (Below.refl _ w).alloc (Nat.le_refl _) _
 have n0 : (w.alloc (.cells #[.int .i64 0, .int .i64 0, .string ⟨#[]⟩, .slice none 0 0, .int .i64 0] 126)).heap[w.heap.size]? = some (.cells #[.int .i64 0, .int .i64 0, .string ⟨#[]⟩, .slice none 0 0, .int .i64 0] 126 (0, 0)) := heap_alloc_new w _
 have s0 : (w.alloc (.cells #[.int .i64 0, .int .i64 0, .string ⟨#[]⟩, .slice none 0 0, .int .i64 0] 126)).heap.size = w.heap.size + 1 := by simp
 have hen := Qeu (h.later b0) hd
 have hrl := Qab h.box
 have hgl := h.row.lt
 have HGN := hide (show g ≠ w.heap.size by omega)
 have HB0 := hide (Ya b0 (Ya n0 s0))
 have HI := hide hI
 clear h b0 n0 s0 hI
 go_enter Try.func138, Try.ntmps138
 go_wp2_with fail
 refine hen.mono ?_
 clear hen
 rintro en w1 ⟨_, a1, i1, y1, f1, rfl, rfl, ⟨ea, ei, hy1⟩, h1, k1⟩
 rw [ea, ei] at h1
 clear ea ei
 obtain ⟨b0, n0, s0⟩ := Qa HB0
 have hs1 := k1.size
 obtain ⟨nb, hnb⟩ : ∃ nb, w1.heap.size = nb := ⟨_, rfl⟩
 obtain ⟨w2, hw2⟩ : ∃ w2, w2 = w1.alloc (.cells #[.int .i64 0, .int .i64 0, .string ⟨#[]⟩, .slice none 0 0, .int .i64 0] 126) := ⟨_, rfl⟩
 have b2 : Below w1.heap.size w1 w2 := by rw [hw2]; exact (Below.refl _ w1).alloc (Nat.le_refl _) _
 have nb2 : w2.heap[nb]? = some (.cells #[.int .i64 0, .int .i64 0, .string ⟨#[]⟩, .slice none 0 0, .int .i64 0] 126 (0, 0)) := by rw [hw2, ← hnb]; exact heap_alloc_new w1 _
 have s2 : w2.heap.size = w1.heap.size + 1 := by rw [hw2]; simp
 have n02 : w2.heap[w.heap.size]? = some (.cells #[.int .i64 0, .int .i64 0, .string ⟨#[]⟩, .slice none 0 0, .int .i64 0] 126 (0, 0)) := (b2.block _ (by omega)).trans (k1.keep n0 (by omega))
 have h2 := h1.later b2
 have k2 : Kp rb w w2 := ((Kp.of_below b0).trans k1).trans (Kp.of_below b2)
 have hwl := Qao h2
 have hsn : w.heap.size < nb := by omega
 have HNB := hide (show nb ≠ rb ∧ w.heap.size ≠ rb ∧ nb ≠ w.heap.size by omega)
 have H2 := hide (Ya h2 (Ya k2 (Ya nb2 (Ya n02 (Ya s2 (Ya hnb hsn))))))
 have HW2 := hide hw2
 have HY1 := hide hy1
 have N2 := Qdv w1 (c0 := .int .i64 0) (c1 := .int .i64 0) (c2 := .string ⟨#[]⟩) (c3 := .slice none 0 0) (c4 := .int .i64 0) (by simp [Value.oneCell'])
 clear b0 n0 s0 hs1 hsn hnb hw2 b2 nb2 s2 n02 h2 k2 h1 k1 hy1 HB0
 go_wp2_with fail
 rw [← Qa HW2, (Qa H2).2.2.2.2.2.1]
 clear HW2 N2
 by_cases hy : y1 = 0
 ·
  rw [decide_eq_true hy] at hwl
  have hin := Qa HI (Qa HY1 hy).2 _ _ _ _ _ (Qa H2).1
  have HY := hide (Qa HY1 hy)
  clear hy
  refine hwl.mono ?_
  clear hwl
  rintro en w2q ⟨rfl, rfl⟩
  go_wp2_with fail
  refine hin.mono ?_
  clear hin
  rintro en w3 ⟨_, aX, i3, yX, fX, rfl, ⟨x3, _, rfl, ⟨ka, kn, kc, rfl⟩, hx3⟩, ⟨ei, ha3, hy3⟩, h3, k3⟩
  rw [ei] at h3
  clear ei
  obtain ⟨h2, k2, nb2, n02, s2, hnb, hs1⟩ := Qa H2
  obtain ⟨e1, e2, e3⟩ := Qa HNB
  have hs3 := k3.size
  have m3 := k3.keep nb2 e1
  have z3 := k3.keep n02 e2
  have S3 := Qbc (new := #[.int .i64 x3.kind, .int .i64 x3.num, str x3.txt, .slice ka kn kc, .int .i64 x3.at_]) m3 rfl rfl (by simp [Value.oneCell', str])
  obtain ⟨WX, hWX⟩ : ∃ WX, WX = w3.setRow nb #[.int .i64 x3.kind, .int .i64 x3.num, str x3.txt, .slice ka kn kc, .int .i64 x3.at_] := ⟨_, rfl⟩
  rw [← hWX] at S3
  have oX : ∀ q, q ≠ nb → WX.heap[q]? = w3.heap[q]? := fun q hq => by rw [hWX]; exact setRow_other _ _ _ _ hq
  have sX : WX.heap.size = w3.heap.size := by rw [hWX, size_setRow]
  have mX : WX.heap[nb]? = some (.cells #[.int .i64 x3.kind, .int .i64 x3.num, str x3.txt, .slice ka kn kc, .int .i64 x3.at_] 126 (0, 0)) := by rw [hWX]; exact setRow_heap _ _ _ _ _ _ m3
  have hX := h3.move (w' := WX) (by omega) (oX rb e1.symm) (oX g (by omega))
  have kX : Kp rb w WX := ⟨by rw [hWX]; exact (k2.trans k3).os, by rw [hWX]; exact (k2.trans k3).tape, by rw [hWX]; exact (k2.trans k3).output, by rw [sX]; exact (k2.trans k3).size, fun q hq hn => (oX q (by omega)).trans ((k2.trans k3).block q hq hn)⟩
  have hxX : ExS (fun b => w.heap.size ≤ b ∧ b ≠ rb ∧ b ≠ w.heap.size) WX [.int .i64 x3.kind, .int .i64 x3.num, str x3.txt, .slice ka kn kc, .int .i64 x3.at_] x3 := by
   have q1 := Qae.same _ _ WX _ _ (Qae.mono _ (fun b => w2q.heap.size ≤ b) _ _ _ hx3 (fun b _ hb => hb)) (by omega) (fun b hb hl => oX b (by omega))
   exact Qae.mono _ _ _ _ _ q1 (fun b _ hb => ⟨by omega, by omega, by omega⟩)
  have XX := hide (Ya hX (Ya kX (Ya mX (Ya ((oX _ e3.symm).trans z3) (Ya hxX (show CoY a i y aX i yX from ⟨rfl, by omega, fun e => ⟨(Qa HY).1, (hy3 e).2⟩⟩))))))
  obtain ⟨xX, hxe⟩ : ∃ xX, xX = x3 := ⟨_, rfl⟩
  rw [← hxe] at XX S3
  rw [← hxe]
  clear hx3 ha3 hy3 h3 k3 h2 k2 nb2 n02 s2 hnb hs1 e1 e2 e3 hs3 m3 z3 hWX oX sX mX hX kX hxX hxe H2 HI HY1
  obtain ⟨h4, k4, m4, z4, hx4, hY4⟩ := Qa XX
  obtain ⟨x_0, x_1, x_2, x_3, x_4, x_5, xf⟩ := cl6 h4.box
  obtain ⟨w5, hw5⟩ : ∃ w5, w5 = WX.setCell ⟨rb, 2, none⟩ (.int .i64 (d : Int)) := ⟨_, rfl⟩
  have h5 : Rr rb g cap l w5 aX d i yX fX := by rw [hw5]; exact h4.setD (by have := h4.dd; omega)
  have k5 : Kp rb w w5 := by rw [hw5]; exact k4.trans (Kp.set _ _ _ _)
  have o5 : ∀ q, q ≠ rb → w5.heap[q]? = WX.heap[q]? := fun q hq => by rw [hw5]; exact hpS hq
  have s5 : w5.heap.size = WX.heap.size := by rw [hw5]; simp
  obtain ⟨hnb, hn0, hne⟩ := Qa HNB
  have m5 := (o5 nb hnb).trans m4
  have z5 := (o5 w.heap.size hn0).trans z4
  have L5 := Qcf m5
  have S5 := Qbc (new := #[.int .i64 xX.kind, .int .i64 xX.num, str xX.txt, .slice ka kn kc, .int .i64 xX.at_]) z5 rfl rfl (by simp [Value.oneCell', str])
  obtain ⟨w6, hw6⟩ : ∃ w6, w6 = w5.setRow w.heap.size #[.int .i64 xX.kind, .int .i64 xX.num, str xX.txt, .slice ka kn kc, .int .i64 xX.at_] := ⟨_, rfl⟩
  rw [← hw6] at S5
  have o6 : ∀ q, q ≠ w.heap.size → w6.heap[q]? = w5.heap[q]? := fun q hq => by rw [hw6]; exact setRow_other _ _ _ _ hq
  have s6 : w6.heap.size = w5.heap.size := by rw [hw6, size_setRow]
  have z6 : w6.heap[w.heap.size]? = some (.cells #[.int .i64 xX.kind, .int .i64 xX.num, str xX.txt, .slice ka kn kc, .int .i64 xX.at_] 126 (0, 0)) := by rw [hw6]; exact setRow_heap _ _ _ _ _ _ z5
  have h6 := h5.move (w' := w6) (by omega) (o6 rb hn0.symm) (o6 g (Qa HGN))
  have k6 : Kp rb w w6 := ⟨by rw [hw6]; exact k5.os, by rw [hw6]; exact k5.tape, by rw [hw6]; exact k5.output, by rw [s6]; exact k5.size, fun q hq hn => (o6 q (by omega)).trans (k5.block q hq hn)⟩
  have hx6 : ExS (fun b => w.heap.size ≤ b) w6 [.int .i64 xX.kind, .int .i64 xX.num, str xX.txt, .slice ka kn kc, .int .i64 xX.at_] xX := by
   have q1 := Qae.same _ _ w6 _ _ hx4 (by omega) (fun b hb hl => (o6 b hb.2.2).trans (o5 b hb.2.1))
   exact Qae.mono _ _ _ _ _ q1 (fun b _ hb => hb.1)
  have HF := hide (Ya h6 (Ya k6 (Ya z6 hx6)))
  have hsb : IntKind.i64.wrap ((d : Int) + 1 - 1) = (d : Int) := by rw [show (d : Int) + 1 - 1 = (d : Int) by omega]; exact Qck d (by have := h4.dd; omega)
  have hdd := h4.dd
  clear h4 k4 m4 z4 hx4 h5 k5 o5 s5 hnb hn0 hne m5 z5 o6 s6 z6 h6 k6 hx6 hw6
  subst hw5
  go_wp2_with fail
  obtain ⟨h6, k6, z6, hx6⟩ := Qa HF
  obtain ⟨z_0, z_1, z_2, z_3, z_4, zf⟩ := ex5 z6
  refine bodyPost_ret (v := .agg #[.int .i64 xX.kind, .int .i64 xX.num, str xX.txt, .slice ka kn kc, .int .i64 xX.at_]) (by simp [results, Try.results138, go_sem, z_0, z_1, z_2, z_3, z_4]) rfl ?_
  exact ⟨_, _, _, _, _, rfl, ⟨xX, _, rfl, ⟨_, _, _, rfl⟩, hx6⟩, hY4, h6, k6⟩
 rw [decide_eq_false hy] at hwl
 obtain ⟨WX, hWX⟩ : ∃ WX, WX = w2 := ⟨_, rfl⟩
 obtain ⟨h2, k2, nb2, n02, s2, hnb, hs1⟩ := Qa H2
 obtain ⟨e1, e2, e3⟩ := Qa HNB
 obtain ⟨yX, hyX⟩ : ∃ yX, yX = y1 := ⟨_, rfl⟩
 obtain ⟨fX, hfX⟩ : ∃ fX, fX = f1 := ⟨_, rfl⟩
 obtain ⟨aX, haX⟩ : ∃ aX, aX = a := ⟨_, rfl⟩
 obtain ⟨xX, hxX⟩ : ∃ xX, xX = Ex.none := ⟨_, rfl⟩
 have hx0 : ExS (fun b => w.heap.size ≤ b ∧ b ≠ rb ∧ b ≠ w.heap.size) w2 [.int .i64 xX.kind, .int .i64 xX.num, str xX.txt, .slice none 0 0, .int .i64 xX.at_] xX := by rw [hxX]; exact Qbu _ _ 0 0 0 []
 have nb3 : w2.heap[nb]? = some (.cells #[.int .i64 xX.kind, .int .i64 xX.num, str xX.txt, .slice none 0 0, .int .i64 xX.at_] 126 (0, 0)) := by rw [hxX]; exact nb2
 have XX := hide (Ya h2 (Ya k2 (Ya nb3 (Ya n02 (Ya hx0 (show CoY a i y a i y1 from ⟨rfl, Nat.le_refl _, fun e => absurd e hy⟩))))))
 clear hy h2 k2 nb2 n02 s2 hnb hs1 e1 e2 e3 hx0 nb3 H2 HI HY1 hxX
 refine hwl.mono ?_
 clear hwl
 rintro en w2q ⟨rfl, rfl⟩
 rw [← hWX, ← hyX, ← hfX] at XX
 rw [← hWX]
 clear hWX hyX hfX
 subst haX
 obtain ⟨h4, k4, m4, z4, hx4, hY4⟩ := Qa XX
 obtain ⟨x_0, x_1, x_2, x_3, x_4, x_5, xf⟩ := cl6 h4.box
 obtain ⟨w5, hw5⟩ : ∃ w5, w5 = WX.setCell ⟨rb, 2, none⟩ (.int .i64 (d : Int)) := ⟨_, rfl⟩
 have h5 : Rr rb g cap l w5 aX d i yX fX := by rw [hw5]; exact h4.setD (by have := h4.dd; omega)
 have k5 : Kp rb w w5 := by rw [hw5]; exact k4.trans (Kp.set _ _ _ _)
 have o5 : ∀ q, q ≠ rb → w5.heap[q]? = WX.heap[q]? := fun q hq => by rw [hw5]; exact hpS hq
 have s5 : w5.heap.size = WX.heap.size := by rw [hw5]; simp
 obtain ⟨hnb, hn0, hne⟩ := Qa HNB
 have m5 := (o5 nb hnb).trans m4
 have z5 := (o5 w.heap.size hn0).trans z4
 have L5 := Qcf m5
 have S5 := Qbc (new := #[.int .i64 xX.kind, .int .i64 xX.num, str xX.txt, .slice none 0 0, .int .i64 xX.at_]) z5 rfl rfl (by simp [Value.oneCell', str])
 obtain ⟨w6, hw6⟩ : ∃ w6, w6 = w5.setRow w.heap.size #[.int .i64 xX.kind, .int .i64 xX.num, str xX.txt, .slice none 0 0, .int .i64 xX.at_] := ⟨_, rfl⟩
 rw [← hw6] at S5
 have o6 : ∀ q, q ≠ w.heap.size → w6.heap[q]? = w5.heap[q]? := fun q hq => by rw [hw6]; exact setRow_other _ _ _ _ hq
 have s6 : w6.heap.size = w5.heap.size := by rw [hw6, size_setRow]
 have z6 : w6.heap[w.heap.size]? = some (.cells #[.int .i64 xX.kind, .int .i64 xX.num, str xX.txt, .slice none 0 0, .int .i64 xX.at_] 126 (0, 0)) := by rw [hw6]; exact setRow_heap _ _ _ _ _ _ z5
 have h6 := h5.move (w' := w6) (by omega) (o6 rb hn0.symm) (o6 g (Qa HGN))
 have k6 : Kp rb w w6 := ⟨by rw [hw6]; exact k5.os, by rw [hw6]; exact k5.tape, by rw [hw6]; exact k5.output, by rw [s6]; exact k5.size, fun q hq hn => (o6 q (by omega)).trans (k5.block q hq hn)⟩
 have hx6 : ExS (fun b => w.heap.size ≤ b) w6 [.int .i64 xX.kind, .int .i64 xX.num, str xX.txt, .slice none 0 0, .int .i64 xX.at_] xX := by
  have q1 := Qae.same _ _ w6 _ _ hx4 (by omega) (fun b hb hl => (o6 b hb.2.2).trans (o5 b hb.2.1))
  exact Qae.mono _ _ _ _ _ q1 (fun b _ hb => hb.1)
 have HF := hide (Ya h6 (Ya k6 (Ya z6 hx6)))
 have hsb : IntKind.i64.wrap ((d : Int) + 1 - 1) = (d : Int) := by rw [show (d : Int) + 1 - 1 = (d : Int) by omega]; exact Qck d (by have := h4.dd; omega)
 have hdd := h4.dd
 clear h4 k4 m4 z4 hx4 h5 k5 o5 s5 hnb hn0 hne m5 z5 o6 s6 z6 h6 k6 hx6 hw6
 subst hw5
 go_wp2_with fail
 obtain ⟨h6, k6, z6, hx6⟩ := Qa HF
 obtain ⟨z_0, z_1, z_2, z_3, z_4, zf⟩ := ex5 z6
 refine bodyPost_ret (v := .agg #[.int .i64 xX.kind, .int .i64 xX.num, str xX.txt, .slice none 0 0, .int .i64 xX.at_]) (by simp [results, Try.results138, go_sem, z_0, z_1, z_2, z_3, z_4]) rfl ?_
 exact ⟨_, _, _, _, _, rfl, ⟨xX, _, rfl, ⟨_, _, _, rfl⟩, hx6⟩, hY4, h6, k6⟩
end
end Go.Proofs.Ytfmbpaoapjmdnaa
