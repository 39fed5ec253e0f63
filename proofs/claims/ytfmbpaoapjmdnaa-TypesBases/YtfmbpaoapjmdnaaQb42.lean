/- Walk of the law on bases. -/
import Derived.Test.YtfmbpaoapjmdnaaQb40
import Derived.Test.YtfmbpaoapjmdnaaQb41
set_option maxRecDepth 100000
set_option maxHeartbeats 32000000
namespace Go.Proofs.Ytfmbpaoapjmdnaa
section
open Go.RowKit Go.Maps
theorem Qih (s : ByteArray) (hs : s.size ≤ 281474976710656) (ta tb : Txt) (w : World) : Calls Try.prog 5 #[.string s, str ta, str tb] w fun e w' => e = .returned (.bool true) ∧ Below w.heap.size w w' := by
 have hp1 := Qlo s hs w
 go_enter Try.func5, Try.ntmps5
 go_wp2_with fail
 refine hp1.mono ?_
 clear hp1
 rintro e v1 ⟨x0a, x0n, x0c, x1a, x1n, x1c, x2a, x2n, x2c, x3a, x3n, x3c, x4a, x4n, x4c, why1, at1, p, rfl, b1, hR1, hct, hwf⟩
 have hR1' := Qar.mono _ (fun q => q < v1.heap.size) _ _ _ hR1 (fun q hl _ => hl)
 obtain ⟨W1, hW1⟩ : ∃ W1, W1 = (v1.alloc (.cells #[.slice x0a x0n x0c, .slice x1a x1n x1c, .slice x2a x2n x2c, .slice x3a x3n x3c, .slice x4a x4n x4c] 28)).alloc (.cells #[.int .i64 why1, .int .i64 at1] 31) := ⟨_, rfl⟩
 have c1 : Below v1.heap.size v1 W1 := by rw [hW1]; exact ((Below.refl _ v1).alloc (Nat.le_refl _) _).alloc (by simp) _
 have p1 : W1.heap[v1.heap.size]? = some (.cells #[.slice x0a x0n x0c, .slice x1a x1n x1c, .slice x2a x2n x2c, .slice x3a x3n x3c, .slice x4a x4n x4c] 28 (0, 0)) := by rw [hW1, Below.heap_alloc _ _ _ (by simp)]; exact heap_alloc_new v1 _
 obtain ⟨kp, hkp⟩ : ∃ k, v1.heap.size = k := ⟨_, rfl⟩
 have B1 : Below w.heap.size w W1 := b1.trans (c1.mono b1.size)
 rw [hkp] at hR1' p1 c1
 have hPW : ∀ W, Below W1.heap.size W1 W → kp ≤ W.heap.size ∧ PgS (fun q => q < kp) W [.slice x0a x0n x0c, .slice x1a x1n x1c, .slice x2a x2n x2c, .slice x3a x3n x3c, .slice x4a x4n x4c] p := fun W bW => by
  have bb := c1.trans (bW.mono (by have := c1.size; omega))
  exact ⟨by have := bb.size; omega, Qar.same _ _ _ _ _ hR1' (by have := bb.size; omega) (fun q hq _ => bb.block q hq)⟩
 obtain ⟨s1, s2, hbv⟩ : ∃ (s : Txt) (b : Bool), bsV (baseP p ta) = .tuple #[str s, .bool b] := by cases baseP p ta <;> exact ⟨_, _, rfl⟩
 obtain ⟨bv, hbb⟩ : ∃ bv, belowP p ta tb = bv := ⟨_, rfl⟩
 have HC : Hid (∀ W : World, Below W1.heap.size W1 W → W.heap[kp]? = some (.cells #[.slice x0a x0n x0c, .slice x1a x1n x1c, .slice x2a x2n x2c, .slice x3a x3n x3c, .slice x4a x4n x4c] 28 (0, 0))) := fun W bW => (bW.block _ (Qab p1)).trans p1
 have hB1 : Calls Try.prog 10 #[.agg #[.slice x0a x0n x0c, .slice x1a x1n x1c, .slice x2a x2n x2c, .slice x3a x3n x3c, .slice x4a x4n x4c], str ta] W1 fun en w' => en = .returned (.tuple #[str s1, .bool s2]) ∧ Below W1.heap.size W1 w' := by
  have := Qok (n0 := kp) (hPW W1 (Below.refl _ _)).1 (hPW W1 (Below.refl _ _)).2 (by omega) ta
  rw [hbv] at this
  exact this
 have HB2 : Hid (∀ W : World, Below W1.heap.size W1 W → Calls Try.prog 11 #[.agg #[.slice x0a x0n x0c, .slice x1a x1n x1c, .slice x2a x2n x2c, .slice x3a x3n x3c, .slice x4a x4n x4c], str ta] W fun en w' => en = .returned (.tuple #[str s1, .bool s2]) ∧ Below W.heap.size W w') := fun W bW => by
  have := Qoa (hPW W bW).2 hwf (by omega) ta
  rw [hbv] at this
  exact this
 have HT : Hid (∀ W : World, Below W1.heap.size W1 W → Calls Try.prog 12 #[.agg #[.slice x0a x0n x0c, .slice x1a x1n x1c, .slice x2a x2n x2c, .slice x3a x3n x3c, .slice x4a x4n x4c], str ta, str tb] W fun en w' => en = .returned (.bool bv) ∧ Below W.heap.size W w') := fun W bW => by
  have := Qhb (n0 := kp) (hPW W bW).1 (hPW W bW).2 (by omega) ta tb
  rw [hbb] at this
  exact this
 have HR : Hid (∀ W : World, Below W1.heap.size W1 W → Calls Try.prog 13 #[.agg #[.slice x0a x0n x0c, .slice x1a x1n x1c, .slice x2a x2n x2c, .slice x3a x3n x3c, .slice x4a x4n x4c], str ta, str tb] W fun en w' => en = .returned (.bool bv) ∧ Below W.heap.size W w') := fun W bW => by
  have := Qlm (hPW W bW).2 hwf (by omega) ta tb
  rw [hbb] at this
  exact this
 have HA : Hid (∀ W : World, Below W1.heap.size W1 W → Calls Try.prog 14 #[] W fun en w' => en = .returned (.bool true) ∧ Below W.heap.size W w') := fun W _ => Qji W
 have HB1 := hide B1
 have HW1 := hide (Ya hW1 hkp)
 clear hR1 hR1' hct hwf c1 p1 B1 hPW hW1 b1 hkp hbv hbb
 obtain ⟨x_0, x_1, x_2, x_3, x_4, xf⟩ := cl5 (Qa HC W1 (Below.refl _ _))
 go_upto_region 2 with fail
 rw [← (Qa HW1).1, (Qa HW1).2]
 go_wp2_with fail
 refine hB1.mono ?_
 clear hB1 x_0 x_1 x_2 x_3 x_4 xf
 rintro en v2 ⟨rfl, b2⟩
 have hB2 := Qa HB2 v2 b2
 have HV2 := hide b2
 obtain ⟨x_0, x_1, x_2, x_3, x_4, xf⟩ := cl5 (Qa HC v2 b2)
 clear b2 HB2
 go_wp2_with fail
 refine hB2.mono ?_
 clear hB2 x_0 x_1 x_2 x_3 x_4 xf
 rintro en v3 ⟨rfl, b3⟩
 have HV3 := hide ((Qa HV2).trans (b3.mono (Qa HV2).size))
 clear b3 HV2
 go_upto_region 4 with fail
 have B0 : Hid (Below W1.heap.size W1 v3.drew) := (Qa HV3).drew
 refine Qav (md := [(0, true), (1, true), (2, true), (3, true), (4, true), (5, true), (6, true), (7, true), (8, true), (9, true), (10, true), (11, true), (13, true), (14, true), (15, true), (12, false), (16, false), (17, true), (18, true), (19, true), (20, false), (21, true), (22, true)]) (fun w' => w'.heap[kp]? = some (.cells #[.slice x0a x0n x0c, .slice x1a x1n x1c, .slice x2a x2n x2c, .slice x3a x3n x3c, .slice x4a x4n x4c] 28 (0, 0))) mixedO (by kernel_rfl) rfl (by kernel_rfl) (fun PP hPP => ?_)
 refine Qac rfl (by kernel_rfl) (fun w' hw => by obtain ⟨k_0, k_1, k_2, k_3, k_4, kf⟩ := cl5 hw; go_simp <;> rfl) ?_
 refine Qac rfl (by kernel_rfl) (fun w' hw => by obtain ⟨k_0, k_1, k_2, k_3, k_4, kf⟩ := cl5 hw; go_simp <;> rfl) ?_
 refine Qac (v := .bool true) rfl (by kernel_rfl) (fun w' hw => by obtain ⟨k_0, k_1, k_2, k_3, k_4, kf⟩ := cl5 hw; go_simp <;> rfl) ?_
 refine Qac (v := .bool true) rfl (by kernel_rfl) (fun w' hw => by obtain ⟨k_0, k_1, k_2, k_3, k_4, kf⟩ := cl5 hw; go_simp <;> rfl) ?_
 refine Qac rfl (by kernel_rfl) (fun w' hw => by obtain ⟨k_0, k_1, k_2, k_3, k_4, kf⟩ := cl5 hw; go_simp <;> rfl) ?_
 refine Qac rfl (by kernel_rfl) (fun w' hw => by obtain ⟨k_0, k_1, k_2, k_3, k_4, kf⟩ := cl5 hw; go_simp <;> rfl) ?_
 refine Qac (v := .bool true) rfl (by kernel_rfl) (fun w' hw => by obtain ⟨k_0, k_1, k_2, k_3, k_4, kf⟩ := cl5 hw; go_simp <;> rfl) ?_
 refine Qac (v := .bool true) rfl (by kernel_rfl) (fun w' hw => by obtain ⟨k_0, k_1, k_2, k_3, k_4, kf⟩ := cl5 hw; go_simp <;> rfl) ?_
 refine Qac (v := .bool true) rfl (by kernel_rfl) (fun w' hw => by obtain ⟨k_0, k_1, k_2, k_3, k_4, kf⟩ := cl5 hw; go_simp <;> rfl) ?_
 refine Qac rfl (by kernel_rfl) (fun w' hw => by obtain ⟨k_0, k_1, k_2, k_3, k_4, kf⟩ := cl5 hw; go_simp <;> rfl) ?_
 refine Qac rfl (by kernel_rfl) (fun w' hw => by obtain ⟨k_0, k_1, k_2, k_3, k_4, kf⟩ := cl5 hw; go_simp <;> rfl) ?_
 refine Qac rfl (by kernel_rfl) (fun w' hw => by obtain ⟨k_0, k_1, k_2, k_3, k_4, kf⟩ := cl5 hw; go_simp <;> rfl) ?_
 refine Qac rfl (by kernel_rfl) (fun w' hw => by obtain ⟨k_0, k_1, k_2, k_3, k_4, kf⟩ := cl5 hw; go_simp <;> rfl) ?_
 refine Qac rfl (by kernel_rfl) (fun w' hw => by obtain ⟨k_0, k_1, k_2, k_3, k_4, kf⟩ := cl5 hw; go_simp <;> rfl) ?_
 refine Qac rfl (by kernel_rfl) (fun w' hw => by obtain ⟨k_0, k_1, k_2, k_3, k_4, kf⟩ := cl5 hw; go_simp <;> rfl) ?_
 refine Qal rfl (Qa HC _ (Qa B0)) (fun K hK => ?_)
 go_simp
 refine (Qa HT _ (Qa B0)).mono ?_
 rintro en z1 ⟨rfl, bz⟩
 have B1 := hide ((Qa B0).trans (bz.mono (Qa B0).size))
 clear bz
 show K _ _
 refine hK _ _ ?_
 clear hK K
 refine Qal rfl (Qa HC _ (Qa B1)) (fun K hK => ?_)
 go_simp
 refine (Qa HR _ (Qa B1)).mono ?_
 rintro en z2 ⟨rfl, bz⟩
 have B2 := hide ((Qa B1).trans (bz.mono (Qa B1).size))
 clear bz
 show K _ _
 refine hK _ _ ?_
 clear hK K
 refine Qac (v := .bool true) rfl (by kernel_rfl) (fun w' hw => by obtain ⟨k_0, k_1, k_2, k_3, k_4, kf⟩ := cl5 hw; go_simp <;> rfl) ?_
 refine Qac (v := .bool true) rfl (by kernel_rfl) (fun w' hw => by obtain ⟨k_0, k_1, k_2, k_3, k_4, kf⟩ := cl5 hw; go_simp <;> rfl) ?_
 refine Qac (v := .bool true) rfl (by kernel_rfl) (fun w' hw => by obtain ⟨k_0, k_1, k_2, k_3, k_4, kf⟩ := cl5 hw; go_simp <;> rfl) ?_
 refine Qal rfl (Qa HC _ (Qa B2)) (fun K hK => ?_)
 go_simp
 refine (Qa HA _ (Qa B2)).mono ?_
 rintro en z3 ⟨rfl, bz⟩
 have B3 := hide ((Qa B2).trans (bz.mono (Qa B2).size))
 clear bz
 show K _ _
 refine hK _ _ ?_
 clear hK K
 refine Qac (v := .bool true) rfl (by kernel_rfl) (fun w' hw => by obtain ⟨k_0, k_1, k_2, k_3, k_4, kf⟩ := cl5 hw; go_simp <;> rfl) ?_
 refine Qac (v := .bool true) rfl (by kernel_rfl) (fun w' hw => by obtain ⟨k_0, k_1, k_2, k_3, k_4, kf⟩ := cl5 hw; go_simp <;> rfl) ?_
 refine Qaw (Qa HC _ (Qa B3)) (hPP _ _ ?_)
 clear hPP PP
 go_wp2_with fail
 go_ret
 exact ⟨rfl, (Qa HB1).trans ((Qa B3).mono (Qa HB1).size)⟩
end
end Go.Proofs.Ytfmbpaoapjmdnaa
