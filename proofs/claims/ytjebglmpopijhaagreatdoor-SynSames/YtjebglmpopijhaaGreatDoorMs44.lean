/- Being the same turns round, and everything is the same as itself. Walk of the law on the same programs. -/
import Derived.Test.YtjebglmpopijhaaGreatDoorMs20
import Derived.Test.YtjebglmpopijhaaGreatDoorMs37
import Derived.Test.YtjebglmpopijhaaGreatDoorMs43
set_option maxRecDepth 100000
set_option maxHeartbeats 32000000
namespace Go.Proofs.YtjebglmpopijhaaGreatDoor
section
open Go.RowKit Go.Maps
theorem Qbn {α : Type} [DecidableEq α] (a b : α) : decide (a = b) = decide (b = a) := by
 by_cases h : a = b
 · subst h; rfl
 · rw [decide_eq_false h, decide_eq_false (Ne.symm h)]
theorem Qch {α : Type} {eq : α → α → Bool} (h : ∀ x y, eq x y = eq y x) : ∀ xs ys : List α, eqL eq xs ys = eqL eq ys xs
 | [], [] => rfl
 | [], y :: ys => by simp [eqL]
 | x :: xs, [] => by simp [eqL]
 | x :: xs, y :: ys => by rw [Qeh, Qeh, h x y, Qch h xs ys]
theorem Qcg {α : Type} {eq : α → α → Bool} (h : ∀ x, eq x x = true) : ∀ xs : List α, eqL eq xs xs = true
 | [] => by simp [eqL]
 | x :: xs => by rw [Qeh, h x, Qcg h xs]; rfl
mutual
theorem Qfy : ∀ x y : Ex, eqE x y = eqE y x
 | .mk k n s ks _, .mk k' n' s' ks' _ => by rw [eqE, eqE, Qiu ks ks', Qbn k k', Qbn n n', Qbn s s']
theorem Qiu : ∀ xs ys : List Ex, eqEs xs ys = eqEs ys xs
 | [], [] => rfl
 | [], _ :: _ => by simp [eqEs]
 | _ :: _, [] => by simp [eqEs]
 | x :: xs, y :: ys => by rw [eqEs, eqEs, Qfy x y, Qiu xs ys]
end
mutual
theorem Qfx : ∀ x : Ex, eqE x x = true
 | .mk k n s ks _ => by rw [eqE, Qit ks]; simp
theorem Qit : ∀ xs : List Ex, eqEs xs xs = true
 | [] => by simp [eqEs]
 | x :: xs => by rw [eqEs, Qfx x, Qit xs]; rfl
end
theorem Qob (x y : Txt) : eqTx x y = eqTx y x := by unfold eqTx; exact Qbn _ _
theorem Qoa (x : Txt) : eqTx x x = true := by unfold eqTx; simp
theorem Qiw (x y : Fld) : eqFd x y = eqFd y x := by unfold eqFd; rw [Qbn x.name, Qbn x.type]
theorem Qiv (x : Fld) : eqFd x x = true := by unfold eqFd; simp
theorem Qll (x y : Atm) : eqA x y = eqA y x := by unfold eqA; rw [Qbn x.rel, Qch Qfy]
theorem Qlk (x : Atm) : eqA x x = true := by unfold eqA; rw [Qcg Qfx]; simp
theorem Qnz (x y : Lt) : eqLt x y = eqLt y x := by unfold eqLt; rw [Qbn x.kind, Qll x.atom, Qbn x.op, Qfy x.l, Qfy x.r]
theorem Qny (x : Lt) : eqLt x x = true := by unfold eqLt; rw [Qlk, Qfx, Qfx]; simp
theorem Qns (x y : Ctr) : eqCt x y = eqCt y x := by unfold eqCt; rw [Qbn x.name, Qch Qiw]
theorem Qnr (x : Ctr) : eqCt x x = true := by unfold eqCt; rw [Qcg Qiv]; simp
theorem Qod (x y : Typ) : eqTy x y = eqTy y x := by unfold eqTy; rw [Qbn x.name, Qbn x.sub, Qch Qns]
theorem Qoc (x : Typ) : eqTy x x = true := by unfold eqTy; rw [Qcg Qnr]; simp
theorem Qnu (x y : Dcl) : eqDc x y = eqDc y x := by unfold eqDc; rw [Qbn x.name, Qch Qiw, Qbn x.input, Qbn x.output]
theorem Qnt (x : Dcl) : eqDc x x = true := by unfold eqDc; rw [Qcg Qiv]; simp
theorem Qnx (x y : Ini) : eqIn x y = eqIn y x := by unfold eqIn; rw [Qbn x.name, Qbn x.comp]
theorem Qnw (x : Ini) : eqIn x x = true := by unfold eqIn; simp
theorem Qnq (x y : Cls) : eqCl x y = eqCl y x := by unfold eqCl; rw [Qll x.head, Qch Qnz]
theorem Qnp (x : Cls) : eqCl x x = true := by unfold eqCl; rw [Qlk, Qcg Qny]; rfl
mutual
theorem Qiy : ∀ p q : Pg, eqPg p q = eqPg q p
 | .mk ts ds cs is ls, .mk ts' ds' cs' is' ls' => by rw [eqPg, eqPg, Qch Qod ts, Qch Qnu ds, Qhf cs cs', Qch Qnx is, Qch Qnq ls]
theorem Qhf : ∀ xs ys : List Cp, eqCps xs ys = eqCps ys xs
 | [], [] => rfl
 | [], _ :: _ => by simp [eqCps]
 | _ :: _, [] => by simp [eqCps]
 | (n, bs, p, _) :: xs, (n', bs', p', _) :: ys => by rw [eqCps, eqCps, Qbn n n', Qch Qob bs, Qiy p p', Qhf xs ys]
end
mutual
theorem Qix : ∀ p : Pg, eqPg p p = true
 | .mk ts ds cs is ls => by rw [eqPg, Qcg Qoc, Qcg Qnt, Qhe cs, Qcg Qnw, Qcg Qnp]; rfl
theorem Qhe : ∀ xs : List Cp, eqCps xs xs = true
 | [] => by simp [eqCps]
 | (n, bs, p, _) :: xs => by rw [eqCps, Qcg Qoa, Qix p, Qhe xs]; simp
end
end
section
open Go.RowKit Go.Maps
theorem Qky (s u : ByteArray) (hs : s.size ≤ 281474976710656) (hu : u.size ≤ 281474976710656) (w : World) (hE : Env w) : Calls Tryz.prog 3 #[.string s, .string u] w fun e w' => e = .returned (.bool true) ∧ Below w.heap.size w w' := by
 have hp1 := Qhi s hs w
 have HE := hide hE
 clear hE
 go_enter Tryz.func3, Tryz.ntmps3
 go_wp2_with fail
 refine hp1.mono ?_
 clear hp1
 rintro e v1 ⟨x0a, x0n, x0c, x1a, x1n, x1c, x2a, x2n, x2c, x3a, x3n, x3c, x4a, x4n, x4c, why1, at1, p, rfl, b1, hR1⟩
 obtain ⟨W1, hW1⟩ : ∃ W1, W1 = (v1.alloc (.cells #[.slice x0a x0n x0c, .slice x1a x1n x1c, .slice x2a x2n x2c, .slice x3a x3n x3c, .slice x4a x4n x4c] 28)).alloc (.cells #[.int .i64 why1, .int .i64 at1] 31) := ⟨_, rfl⟩
 have c1 : Below v1.heap.size v1 W1 := by rw [hW1]; exact ((Below.refl _ v1).alloc (Nat.le_refl _) _).alloc (by simp) _
 have p1 : W1.heap[v1.heap.size]? = some (.cells #[.slice x0a x0n x0c, .slice x1a x1n x1c, .slice x2a x2n x2c, .slice x3a x3n x3c, .slice x4a x4n x4c] 28 (0, 0)) := by rw [hW1, Below.heap_alloc _ _ _ (by simp)]; exact heap_alloc_new v1 _
 have f1 : W1.heap[v1.heap.size + 1]? = some (.cells #[.int .i64 why1, .int .i64 at1] 31 (0, 0)) := by
  rw [hW1]
  have := heap_alloc_new (v1.alloc (.cells #[.slice x0a x0n x0c, .slice x1a x1n x1c, .slice x2a x2n x2c, .slice x3a x3n x3c, .slice x4a x4n x4c] 28)) (.cells #[.int .i64 why1, .int .i64 at1] 31)
  rw [show (v1.alloc (.cells #[.slice x0a x0n x0c, .slice x1a x1n x1c, .slice x2a x2n x2c, .slice x3a x3n x3c, .slice x4a x4n x4c] 28)).heap.size = v1.heap.size + 1 by simp] at this
  exact this
 obtain ⟨kp1, hkp1⟩ : ∃ k, v1.heap.size = k := ⟨_, rfl⟩
 obtain ⟨kf1, hkf1⟩ : ∃ k, v1.heap.size + 1 = k := ⟨_, rfl⟩
 rw [hkp1] at p1
 rw [hkf1] at f1
 have B1 : Below w.heap.size w W1 := b1.trans (c1.mono b1.size)
 have hp2 := Qhi u hu W1
 have K1 := hide (Ya B1 (Ya p1 (Ya c1 hR1)))
 have HW1 := hide hW1
 clear b1 c1 p1 f1 B1 hW1 hR1
 have HK1 := hide (Ya hkp1 hkf1)
 clear hkp1 hkf1
 go_wp2_with fail
 rw [← Qa HW1, (Qa HK1).2, (Qa HK1).1]
 clear HW1 HK1
 refine hp2.mono ?_
 clear hp2
 rintro e v2 ⟨y0a, y0n, y0c, y1a, y1n, y1c, y2a, y2n, y2c, y3a, y3n, y3c, y4a, y4n, y4c, why2, at2, q, rfl, b2, hR2⟩
 obtain ⟨W2, hW2⟩ : ∃ W2, W2 = (v2.alloc (.cells #[.slice y0a y0n y0c, .slice y1a y1n y1c, .slice y2a y2n y2c, .slice y3a y3n y3c, .slice y4a y4n y4c] 28)).alloc (.cells #[.int .i64 why2, .int .i64 at2] 31) := ⟨_, rfl⟩
 have c2 : Below v2.heap.size v2 W2 := by rw [hW2]; exact ((Below.refl _ v2).alloc (Nat.le_refl _) _).alloc (by simp) _
 have p2 : W2.heap[v2.heap.size]? = some (.cells #[.slice y0a y0n y0c, .slice y1a y1n y1c, .slice y2a y2n y2c, .slice y3a y3n y3c, .slice y4a y4n y4c] 28 (0, 0)) := by rw [hW2, Below.heap_alloc _ _ _ (by simp)]; exact heap_alloc_new v2 _
 have f2 : W2.heap[v2.heap.size + 1]? = some (.cells #[.int .i64 why2, .int .i64 at2] 31 (0, 0)) := by
  rw [hW2]
  have := heap_alloc_new (v2.alloc (.cells #[.slice y0a y0n y0c, .slice y1a y1n y1c, .slice y2a y2n y2c, .slice y3a y3n y3c, .slice y4a y4n y4c] 28)) (.cells #[.int .i64 why2, .int .i64 at2] 31)
  rw [show (v2.alloc (.cells #[.slice y0a y0n y0c, .slice y1a y1n y1c, .slice y2a y2n y2c, .slice y3a y3n y3c, .slice y4a y4n y4c] 28)).heap.size = v2.heap.size + 1 by simp] at this
  exact this
 obtain ⟨kp2, hkp2⟩ : ∃ k, v2.heap.size = k := ⟨_, rfl⟩
 obtain ⟨kf2, hkf2⟩ : ∃ k, v2.heap.size + 1 = k := ⟨_, rfl⟩
 rw [hkp2] at p2
 rw [hkf2] at f2
 have B2 : Below W1.heap.size W1 W2 := b2.trans (c2.mono b2.size)
 have B02 : Below w.heap.size w W2 := (Qa K1).1.trans (B2.mono (Qa K1).1.size)
 have q1 := (B2.block _ (Qag (Qa K1).2.1)).trans (Qa K1).2.1
 have r1 : PgS (fun _ => True) W2 [.slice x0a x0n x0c, .slice x1a x1n x1c, .slice x2a x2n x2c, .slice x3a x3n x3c, .slice x4a x4n x4c] p := (Qa K1).2.2.2.move (Nat.le_trans (Qa K1).2.2.1.size B2.size) (fun b hl _ => (B2.block b (Nat.lt_of_lt_of_le hl (Qa K1).2.2.1.size)).trans ((Qa K1).2.2.1.block b hl)) (fun _ _ => trivial)
 have r2 : PgS (fun _ => True) W2 [.slice y0a y0n y0c, .slice y1a y1n y1c, .slice y2a y2n y2c, .slice y3a y3n y3c, .slice y4a y4n y4c] q := hR2.move c2.size (fun b hl _ => c2.block b hl) (fun _ _ => trivial)
 obtain ⟨bq, hbq⟩ : ∃ bq, eqPg p q = bq := ⟨_, rfl⟩
 have hmv : ∀ w', Below W2.heap.size W2 w' → PgS (fun _ => True) w' [.slice x0a x0n x0c, .slice x1a x1n x1c, .slice x2a x2n x2c, .slice x3a x3n x3c, .slice x4a x4n x4c] p ∧ PgS (fun _ => True) w' [.slice y0a y0n y0c, .slice y1a y1n y1c, .slice y2a y2n y2c, .slice y3a y3n y3c, .slice y4a y4n y4c] q := fun w' bb => ⟨Qbe.same _ _ _ _ _ r1 bb.size (fun b _ hl => bb.block b hl), Qbe.same _ _ _ _ _ r2 bb.size (fun b _ hl => bb.block b hl)⟩
 have H1 : Hid (∀ w', Below W2.heap.size W2 w' → Calls Tryz.prog 7 #[.agg #[.slice x0a x0n x0c, .slice x1a x1n x1c, .slice x2a x2n x2c, .slice x3a x3n x3c, .slice x4a x4n x4c], .agg #[.slice y0a y0n y0c, .slice y1a y1n y1c, .slice y2a y2n y2c, .slice y3a y3n y3c, .slice y4a y4n y4c]] w' fun en w2 => en = .returned (.bool bq) ∧ Below w'.heap.size w' w2) := fun w' bb => by
  have := Qdn p q _ w' _ _ _ _ _ _ _ _ _ _ (hmv w' bb).1 (hmv w' bb).2
  rw [hbq] at this; exact this
 have H2 : Hid (∀ w', Below W2.heap.size W2 w' → Calls Tryz.prog 8 #[.agg #[.slice x0a x0n x0c, .slice x1a x1n x1c, .slice x2a x2n x2c, .slice x3a x3n x3c, .slice x4a x4n x4c], .agg #[.slice y0a y0n y0c, .slice y1a y1n y1c, .slice y2a y2n y2c, .slice y3a y3n y3c, .slice y4a y4n y4c], .bool false] w' fun en w2 => en = .returned (.bool bq) ∧ Below w'.heap.size w' w2) := fun w' bb => by
  have := Qgs p q _ w' _ _ _ _ _ _ _ _ _ _ (hmv w' bb).1 (hmv w' bb).2
  rw [hbq] at this; exact this
 have H3 : Hid (∀ w', Below W2.heap.size W2 w' → Calls Tryz.prog 7 #[.agg #[.slice x0a x0n x0c, .slice x1a x1n x1c, .slice x2a x2n x2c, .slice x3a x3n x3c, .slice x4a x4n x4c], .agg #[.slice x0a x0n x0c, .slice x1a x1n x1c, .slice x2a x2n x2c, .slice x3a x3n x3c, .slice x4a x4n x4c]] w' fun en w2 => en = .returned (.bool true) ∧ Below w'.heap.size w' w2) := fun w' bb => by
  have := Qdn p p _ w' _ _ _ _ _ _ _ _ _ _ (hmv w' bb).1 (hmv w' bb).1
  rw [Qix] at this; exact this
 have H4 : Hid (∀ w', Below W2.heap.size W2 w' → Calls Tryz.prog 7 #[.agg #[.slice y0a y0n y0c, .slice y1a y1n y1c, .slice y2a y2n y2c, .slice y3a y3n y3c, .slice y4a y4n y4c], .agg #[.slice x0a x0n x0c, .slice x1a x1n x1c, .slice x2a x2n x2c, .slice x3a x3n x3c, .slice x4a x4n x4c]] w' fun en w2 => en = .returned (.bool bq) ∧ Below w'.heap.size w' w2) := fun w' bb => by
  have := Qdn q p _ w' _ _ _ _ _ _ _ _ _ _ (hmv w' bb).2 (hmv w' bb).1
  rw [Qiy, hbq] at this; exact this
 have H5 : Hid (∀ w', Below W2.heap.size W2 w' → Calls Tryz.prog 9 #[] w' fun en w2 => en = .returned (.bool true) ∧ Below w'.heap.size w' w2) := fun w' bb => Qmk w' ((Qa HE).later (B02.trans (bb.mono B02.size)))
 have HC : Hid (∀ w', Below W2.heap.size W2 w' → w'.heap[kp1]? = some (.cells #[.slice x0a x0n x0c, .slice x1a x1n x1c, .slice x2a x2n x2c, .slice x3a x3n x3c, .slice x4a x4n x4c] 28 (0, 0)) ∧ w'.heap[kp2]? = some (.cells #[.slice y0a y0n y0c, .slice y1a y1n y1c, .slice y2a y2n y2c, .slice y3a y3n y3c, .slice y4a y4n y4c] 28 (0, 0))) := fun w' bb => ⟨(bb.block _ (Qag q1)).trans q1, (bb.block _ (Qag p2)).trans p2⟩
 have HBW := hide B02
 have HW2 := hide hW2
 have HK2 := hide (Ya hkp2 hkf2)
 clear b2 c2 p2 f2 B2 B02 hW2 hR2 q1 r1 r2 hbq hmv hkp2 hkf2 K1
 go_wp2_with fail
 rw [← Qa HW2, (Qa HK2).2, (Qa HK2).1]
 clear HW2 HK2
 refine Qak (md := [(0, true), (1, true), (3, true), (4, true), (2, false), (5, false), (6, true), (7, true), (8, true), (9, true), (10, false), (11, true), (12, true), (13, true), (14, true), (16, true), (17, true), (15, false), (18, false), (19, true), (20, true), (21, true), (22, false), (23, true), (24, true)]) (fun w' => w'.heap[kp1]? = some (.cells #[.slice x0a x0n x0c, .slice x1a x1n x1c, .slice x2a x2n x2c, .slice x3a x3n x3c, .slice x4a x4n x4c] 28 (0, 0)) ∧ w'.heap[kp2]? = some (.cells #[.slice y0a y0n y0c, .slice y1a y1n y1c, .slice y2a y2n y2c, .slice y3a y3n y3c, .slice y4a y4n y4c] 28 (0, 0))) mixedO (by kernel_rfl) rfl (by kernel_rfl) (fun PP hPP => ?_)
 refine Qaa rfl (by kernel_rfl) (fun w' hw => by obtain ⟨g_1, g_2⟩ := hw; obtain ⟨x_0, x_1, x_2, x_3, x_4, xf⟩ := cl5 g_1; obtain ⟨y_0, y_1, y_2, y_3, y_4, yf⟩ := cl5 g_2; go_simp <;> rfl) ?_
 refine Qaa rfl (by kernel_rfl) (fun w' hw => by obtain ⟨g_1, g_2⟩ := hw; obtain ⟨x_0, x_1, x_2, x_3, x_4, xf⟩ := cl5 g_1; obtain ⟨y_0, y_1, y_2, y_3, y_4, yf⟩ := cl5 g_2; go_simp <;> rfl) ?_
 refine Qaa rfl (by kernel_rfl) (fun w' hw => by obtain ⟨g_1, g_2⟩ := hw; obtain ⟨x_0, x_1, x_2, x_3, x_4, xf⟩ := cl5 g_1; obtain ⟨y_0, y_1, y_2, y_3, y_4, yf⟩ := cl5 g_2; go_simp <;> rfl) ?_
 refine Qaa rfl (by kernel_rfl) (fun w' hw => by obtain ⟨g_1, g_2⟩ := hw; obtain ⟨x_0, x_1, x_2, x_3, x_4, xf⟩ := cl5 g_1; obtain ⟨y_0, y_1, y_2, y_3, y_4, yf⟩ := cl5 g_2; go_simp <;> rfl) ?_
 refine Qai rfl (Qa HC _ ((Below.refl W2.heap.size W2).drew)) (fun K hK => ?_)
 go_simp
 have hcl := Qa H1 W2.drew ((Below.refl W2.heap.size W2).drew)
 refine hcl.mono ?_
 clear hcl
 rintro en z1 ⟨rfl, bz⟩
 have B1 := hide (((Below.refl W2.heap.size W2).drew).trans (bz.mono ((Below.refl W2.heap.size W2).drew).size))
 clear bz
 show K _ _
 refine hK _ _ ?_
 clear hK K
 refine Qai rfl (Qa HC _ (Qa B1)) (fun K hK => ?_)
 go_simp
 have hcl := Qa H2 z1 (Qa B1)
 refine hcl.mono ?_
 clear hcl
 rintro en z2 ⟨rfl, bz⟩
 have B2 := hide ((Qa B1).trans (bz.mono (Qa B1).size))
 clear bz
 show K _ _
 refine hK _ _ ?_
 clear hK K
 refine Qaa (v := .bool true) rfl (by kernel_rfl) (fun _ _ => by go_simp <;> rfl) ?_
 refine Qaa (v := .bool true) rfl (by kernel_rfl) (fun _ _ => by go_simp <;> rfl) ?_
 refine Qaa rfl (by kernel_rfl) (fun w' hw => by obtain ⟨g_1, g_2⟩ := hw; obtain ⟨x_0, x_1, x_2, x_3, x_4, xf⟩ := cl5 g_1; obtain ⟨y_0, y_1, y_2, y_3, y_4, yf⟩ := cl5 g_2; go_simp <;> rfl) ?_
 refine Qaa rfl (by kernel_rfl) (fun w' hw => by obtain ⟨g_1, g_2⟩ := hw; obtain ⟨x_0, x_1, x_2, x_3, x_4, xf⟩ := cl5 g_1; obtain ⟨y_0, y_1, y_2, y_3, y_4, yf⟩ := cl5 g_2; go_simp <;> rfl) ?_
 refine Qai rfl (Qa HC _ (Qa B2)) (fun K hK => ?_)
 go_simp
 have hcl := Qa H3 z2 (Qa B2)
 refine hcl.mono ?_
 clear hcl
 rintro en z3 ⟨rfl, bz⟩
 have B3 := hide ((Qa B2).trans (bz.mono (Qa B2).size))
 clear bz
 show K _ _
 refine hK _ _ ?_
 clear hK K
 refine Qaa (v := .bool true) rfl (by kernel_rfl) (fun _ _ => by go_simp <;> rfl) ?_
 refine Qaa (v := .bool true) rfl (by kernel_rfl) (fun _ _ => by go_simp <;> rfl) ?_
 refine Qaa rfl (by kernel_rfl) (fun w' hw => by obtain ⟨g_1, g_2⟩ := hw; obtain ⟨x_0, x_1, x_2, x_3, x_4, xf⟩ := cl5 g_1; obtain ⟨y_0, y_1, y_2, y_3, y_4, yf⟩ := cl5 g_2; go_simp <;> rfl) ?_
 refine Qaa rfl (by kernel_rfl) (fun w' hw => by obtain ⟨g_1, g_2⟩ := hw; obtain ⟨x_0, x_1, x_2, x_3, x_4, xf⟩ := cl5 g_1; obtain ⟨y_0, y_1, y_2, y_3, y_4, yf⟩ := cl5 g_2; go_simp <;> rfl) ?_
 refine Qaa rfl (by kernel_rfl) (fun w' hw => by obtain ⟨g_1, g_2⟩ := hw; obtain ⟨x_0, x_1, x_2, x_3, x_4, xf⟩ := cl5 g_1; obtain ⟨y_0, y_1, y_2, y_3, y_4, yf⟩ := cl5 g_2; go_simp <;> rfl) ?_
 refine Qaa rfl (by kernel_rfl) (fun w' hw => by obtain ⟨g_1, g_2⟩ := hw; obtain ⟨x_0, x_1, x_2, x_3, x_4, xf⟩ := cl5 g_1; obtain ⟨y_0, y_1, y_2, y_3, y_4, yf⟩ := cl5 g_2; go_simp <;> rfl) ?_
 refine Qai rfl (Qa HC _ (Qa B3)) (fun K hK => ?_)
 go_simp
 have hcl := Qa H4 z3 (Qa B3)
 refine hcl.mono ?_
 clear hcl
 rintro en z4 ⟨rfl, bz⟩
 have B4 := hide ((Qa B3).trans (bz.mono (Qa B3).size))
 clear bz
 show K _ _
 refine hK _ _ ?_
 clear hK K
 refine Qai rfl (Qa HC _ (Qa B4)) (fun K hK => ?_)
 go_simp
 have hcl := Qa H1 z4 (Qa B4)
 refine hcl.mono ?_
 clear hcl
 rintro en z5 ⟨rfl, bz⟩
 have B5 := hide ((Qa B4).trans (bz.mono (Qa B4).size))
 clear bz
 show K _ _
 refine hK _ _ ?_
 clear hK K
 refine Qaa (v := .bool true) rfl (by kernel_rfl) (fun _ _ => by go_simp <;> rfl) ?_
 refine Qaa (v := .bool true) rfl (by kernel_rfl) (fun _ _ => by go_simp <;> rfl) ?_
 refine Qaa (v := .bool true) rfl (by kernel_rfl) (fun _ _ => by go_simp <;> rfl) ?_
 refine Qai rfl (Qa HC _ (Qa B5)) (fun K hK => ?_)
 go_simp
 have hcl := Qa H5 z5 (Qa B5)
 refine hcl.mono ?_
 clear hcl
 rintro en z6 ⟨rfl, bz⟩
 have B6 := hide ((Qa B5).trans (bz.mono (Qa B5).size))
 clear bz
 show K _ _
 refine hK _ _ ?_
 clear hK K
 refine Qaa (v := .bool true) rfl (by kernel_rfl) (fun _ _ => by go_simp <;> rfl) ?_
 refine Qaa (v := .bool true) rfl (by kernel_rfl) (fun _ _ => by go_simp <;> rfl) ?_
 refine Qap (Qa HC _ (Qa B6)) (hPP _ _ ?_)
 clear hPP PP
 simp [Act.put, Array.setIfInBounds]
 go_wp2_with fail
 go_ret
 exact ⟨rfl, (Qa HBW).trans ((Qa B6).mono (Qa HBW).size)⟩
end
end Go.Proofs.YtjebglmpopijhaaGreatDoor
