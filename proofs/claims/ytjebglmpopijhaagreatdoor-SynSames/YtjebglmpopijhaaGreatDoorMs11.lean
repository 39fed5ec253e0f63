/- syn: factor. syn: expressions of any depth. syn: atom. syn: the generic list, at Fld. syn: what stands between two signs, at Fld. syn: the generic list, at Ctr. syn: fields as parts; ctor. syn: instance. syn: typeDecl. syn: decl. -/
import Derived.Test.YtjebglmpopijhaaGreatDoorMs10
import Derived.Test.YtjebglmpopijhaaGreatDoorMs07
set_option maxRecDepth 100000
set_option maxHeartbeats 32000000
namespace Go.Proofs.YtjebglmpopijhaaGreatDoor
section
open Go.RowKit Go.Maps
theorem Qog {rb e : Nat} : OpC 208 rb e 32 (refuse e 4) := by
 intro w l it h
 obtain ⟨w1, hw1⟩ : ∃ w1, w1 = w.alloc exZ := ⟨_, rfl⟩
 have b1 : Below w.heap.size w w1 := by rw [hw1]; exact (Below.refl _ w).alloc (Nat.le_refl _) _
 have hc := Qlj (h.later b1)
 have HW1 : Hid (w1 = w.alloc (.cells #[.int .i64 0, .int .i64 0, .string ⟨#[]⟩, .slice none 0 0, .int .i64 0] 88)) := hw1
 obtain ⟨PO, hPO⟩ : ∃ PO : Ending → World → Prop, PO = fun en w' => Ans rb e 32 w (fun w2 v x => VE (fun b => w.heap.size ≤ b) w2 v x) (refuse e 4 l it) en w' := ⟨_, rfl⟩
 rw [← hPO]
 have HPO := hide hPO
 have B1 := hide b1
 clear hw1 h b1 hPO
 go_enter Tryz.func208, Tryz.ntmps208
 go_wp2_with fail
 rw [← Qa HW1]
 refine hc.mono ?_
 clear hc
 rintro en w3 ⟨rfl, b3⟩
 have H3 := hide (Kp.of_below (rb := rb) ((Qa B1).trans (b3.mono (Qa B1).size)))
 clear b3
 go_wp2_with fail
 refine ⟨rfl, ?_⟩
 rw [Qa HPO]
 exact ⟨rfl, Qa H3⟩

theorem Qmo {rb e dp : Nat} {E F : Pr Ex} (hd : dp < 32) (hE : OpC 182 rb e (dp + 1) E) (hsE : Shr E) (hF : OpC 208 rb e (dp + 1) F) (hnum : ∀ l it x l2 i2, (ahd e 0 l).kind = 2 → F l it = .ok x l2 i2 → x.num = (ahd e 0 l).num) : OpC 208 rb e dp (factorB e E F) := by
 have mixed : Tryz.prog.follows .mixedOrders = true := by kernel_rfl
 intro w l it h
 obtain ⟨w1, hw1⟩ : ∃ w1, w1 = w.alloc exZ := ⟨_, rfl⟩
 have b1 : Below w.heap.size w w1 := by rw [hw1]; exact (Below.refl _ w).alloc (Nat.le_refl _) _
 have q1 : w1.heap[w.heap.size]? = some exZ := by rw [hw1]; exact heap_alloc_new w _
 have s1 : w1.heap.size = w.heap.size + 1 := by rw [hw1]; simp
 have he := Qis (h.later b1) hd
 have hrb := h.lt
 obtain ⟨PO, hPO⟩ : ∃ PO : Ending → World → Prop, PO = fun en w' => Ans rb e dp w (fun w2 v x => VE (fun b => w.heap.size ≤ b) w2 v x) (factorB e E F l it) en w' := ⟨_, rfl⟩
 rw [← hPO]
 have HW1 : Hid (w1 = w.alloc (.cells #[.int .i64 0, .int .i64 0, .string ⟨#[]⟩, .slice none 0 0, .int .i64 0] 88)) := hw1
 have HPO := hide hPO
 have HP := hide (Ya hE (Ya hsE (Ya hF (Ya hnum hd))))
 have K1 := hide (Ya b1 (Ya q1 s1))
 clear hE hsE hF hnum h b1 q1 s1 hw1 hPO hd
 go_enter Tryz.func208, Tryz.ntmps208
 go_wp2_with fail
 rw [← Qa HW1]
 refine he.mono ?_
 clear he
 rintro en w2 ⟨rfl, hR2, k2⟩
 obtain ⟨b1, q1, s1⟩ := Qa K1
 have hs2 := k2.size
 obtain ⟨w3, hw3⟩ : ∃ w3, w3 = w2.alloc exZ := ⟨_, rfl⟩
 have b3 : Below w2.heap.size w2 w3 := by rw [hw3]; exact (Below.refl _ w2).alloc (Nat.le_refl _) _
 have x3 : w3.heap[w2.heap.size]? = some exZ := by rw [hw3]; exact heap_alloc_new w2 _
 have k3 : Kp rb w w3 := ((Kp.of_below b1).trans k2).trans (Kp.of_below b3)
 have q3 : w3.heap[w.heap.size]? = some exZ := (b3.block _ (by omega)).trans (k2.keep q1 (by omega))
 have s3 : w3.heap.size = w2.heap.size + 1 := by rw [hw3]; simp
 have hR3 := hR2.later b3
 have ha := Qbc hR3 0
 unfold tokV at ha
 have HW3 : Hid (w3 = w2.alloc (.cells #[.int .i64 0, .int .i64 0, .string ⟨#[]⟩, .slice none 0 0, .int .i64 0] 88)) := hw3
 have K3 := hide (Ya k3 (Ya x3 (Ya q3 (Ya hR3 (Ya s3 (by omega : w.heap.size + 1 ≤ w2.heap.size))))))
 obtain ⟨t, ht⟩ : ∃ t, t = ahd e 0 l := ⟨_, rfl⟩
 rw [← ht] at ha
 generalize hxb : w2.heap.size = xb at K3
 clear b1 q1 s1 hs2 hw3 b3 x3 k3 q3 s3 K1 hR2 k2 hR3
 go_wp2_with fail
 rw [← Qa HW3]
 clear HW3 hxb
 refine ha.mono ?_
 clear ha
 rintro en w4 ⟨rfl, b4⟩
 obtain ⟨k3, x3, q3, hR3, s3, g1⟩ := Qa K3
 have hs4 := b4.size
 obtain ⟨w5, hw5⟩ : ∃ w5, w5 = w4.alloc (.cells #[.int .i64 t.kind, str t.text, .int .i64 t.num, .int .i64 (t.at_ : Int)] 49) := ⟨_, rfl⟩
 have b5 : Below w3.heap.size w3 w5 := by rw [hw5]; exact b4.alloc b4.size _
 have n5 : w5.heap[w4.heap.size]? = some (.cells #[.int .i64 t.kind, str t.text, .int .i64 t.num, .int .i64 (t.at_ : Int)] 49 (0, 0)) := by rw [hw5]; exact heap_alloc_new w4 _
 have x5 : w5.heap[xb]? = some exZ := (b5.block _ (by omega)).trans x3
 have q5 : w5.heap[w.heap.size]? = some exZ := (b5.block _ (by omega)).trans q3
 have k5 := k3.trans (Kp.of_below b5)
 have hR5 := hR3.later b5
 have HG : Hid (w.heap.size + 1 ≤ xb) := g1
 have K5 := hide (Ya k5 (Ya n5 (Ya x5 (Ya q5 (Ya g1 (by omega : xb + 1 ≤ w4.heap.size))))))
 have HW5 := hide hw5
 obtain ⟨tc0, tc1, tc2, tc3⟩ := tk4 n5
 generalize htb : w4.heap.size = tb at tc0 tc1 tc2 tc3 K5
 clear k3 x3 q3 hR3 s3 g1 hs4 hw5 b5 n5 x5 q5 k5 K3 b4
 by_cases c2 : t.kind = 2
 ·
  have g2 : (t.kind == 2) = true := by simpa using c2
  obtain ⟨t', l2, rfl, hk⟩ := Qef (ht ▸ c2) (by decide)
  clear hk
  have e0 : t = t' := ht
  subst e0
  obtain ⟨i2, hi2⟩ : ∃ i2, i2 = it := ⟨_, rfl⟩
  have HPO2 : Hid (PO = fun en w' => Ans rb e dp w (fun w2 v x => VE (fun b => w.heap.size ≤ b) w2 v x) (.ok (.mk 2 t.num [] [] t.at_) l2 i2) en w') := by
   have := Qa HPO
   rw [factorB, if_pos (ht ▸ c2)] at this
   rw [hi2]; exact this
  have htk : Calls Tryz.prog 147 #[.pointer (some ⟨rb, 0, none⟩)] w5.drew fun en w' => en = .returned (.agg #[.int .i64 t.kind, str t.text, .int .i64 t.num, .int .i64 (t.at_ : Int)]) ∧ Rd rb e w' l2 i2 (dp + 1) ∧ Kp rb w5.drew w' := by rw [hi2]; exact Qdf (hR5.later ((Below.refl _ w5).drew))
  clear HPO ht c2 hR5 hi2
  have HPO := HPO2
  clear HPO2
  go_wp2_with fail
  rw [← Qa HW5]
  clear HW5 htb
  go_wp2_with fail
  refine Qcc (m := 6) (ml := [(0, 1), (3, 1), (4, 1), (1, 0), (2, 0), (5, 0), (6, 0)]) (fun _ w' => w'.heap[tb]? = some (.cells #[.int .i64 t.kind, str t.text, .int .i64 t.num, .int .i64 (t.at_ : Int)] 49 (0, 0))) mixed (by kernel_rfl) rfl (by rfl) (by kernel_rfl) (fun c a d v w h => by cases d <;> exact h) (fun PP PQ hPP hPQ => ?_)
  refine Qac rfl (by kernel_rfl) (fun _ _ _ => by go_simp <;> rfl) ?_
  refine Qac rfl (by kernel_rfl) (fun _ _ _ => by go_simp <;> rfl) ?_
  refine Qac rfl (by kernel_rfl) (fun f w' hw => by obtain ⟨u0, u1, u2, u3⟩ := tk4 hw; go_simp <;> rfl) ?_
  refine Qab rfl (Qa K5).2.1 (fun K hK => ?_)
  go_simp
  refine htk.mono ?_
  clear htk
  rintro en w6 ⟨rfl, hR6, k56'⟩
  obtain ⟨k5, n5, x5, q5, g1, g2⟩ := Qa K5
  have k56 : Kp rb w5 w6 := (Kp.of_below ((Below.refl _ w5).drew)).trans k56'
  have hs56 := k56.size
  have h5s := Qag n5
  have k6 := k5.trans k56
  have x6 := k56.keep x5 (by omega)
  have q6 := k56.keep q5 (by omega)
  have n6 := k56.keep n5 (by omega)
  have hX6 : ExS (fun b => w.heap.size < b ∧ b ≠ xb) w6 [.int .i64 2, .int .i64 t.num, .string ⟨#[]⟩, .slice none 0 0, .int .i64 (t.at_ : Int)] (.mk 2 t.num [] [] (t.at_ : Int)) := Qbu _ w6 _ _ _ _
  obtain ⟨w7, hw7⟩ : ∃ w7, w7 = ((((w6.setCell ⟨xb, 0, none⟩ (.int .i64 2)).setCell ⟨xb, 1, none⟩ (.int .i64 t.num)).setCell ⟨xb, 2, none⟩ (.string ⟨#[]⟩)).setCell ⟨xb, 3, none⟩ (.slice none 0 0)).setCell ⟨xb, 4, none⟩ (.int .i64 (t.at_ : Int)) := ⟨_, rfl⟩
  have n7 : w7.heap[xb]? = some (.cells #[.int .i64 2, .int .i64 t.num, .string ⟨#[]⟩, .slice none 0 0, .int .i64 (t.at_ : Int)] 88 (0, 0)) := by rw [hw7]; exact (Qae (Qae (Qae (Qae (Qae x6 0 _) 1 _) 2 _) 3 _) 4 _).trans rfl
  have hsame : ∀ b, b ≠ xb → w7.heap[b]? = w6.heap[b]? := fun b hb => by
   rw [hw7, hpS hb, hpS hb, hpS hb, hpS hb, hpS hb]
  have s7 : w6.heap.size = w7.heap.size := by rw [hw7]; simp [World.setCell]
  have q7 : w7.heap[w.heap.size]? = some exZ := (hsame _ (by omega)).trans q6
  have k7 : Kp rb w w7 := by rw [hw7]; exact ((((k6.set2 (by omega)).set2 (by omega)).set2 (by omega)).set2 (by omega)).set2 (by omega)
  have hR7 : Rd rb e w7 l2 i2 (dp + 1) := by rw [hw7]; exact ((((hR6.set2 (by omega)).set2 (by omega)).set2 (by omega)).set2 (by omega)).set2 (by omega)
  have hX7 : ExS (fun b => w.heap.size < b ∧ b ≠ xb) w7 [.int .i64 2, .int .i64 t.num, .string ⟨#[]⟩, .slice none 0 0, .int .i64 (t.at_ : Int)] (.mk 2 t.num [] [] (t.at_ : Int)) := Qaf.same _ _ w7 _ _ hX6 (by omega) (fun b hs _ => hsame b hs.2)
  have hl := Qea hR7 (Qa HP).2.2.2.2
  have K7 := hide (Ya k7 (Ya n7 (Ya q7 hX7)))
  have HW7 := hide hw7
  obtain ⟨y0, y1, y2, y3, y4, yf⟩ := ex5 x6
  have N6 := hide n6
  have N7 := hide ((hsame tb (by omega)).trans n6)
  clear hR6 k56 k56' k5 n5 x5 q5 g1 g2 hs56 h5s k6 x6 q6 n6 hX6 n7 hsame s7 q7 k7 hR7 hX7 K5 tc0 tc1 tc2 tc3
  subst hw7
  clear HW7
  go_wp2_with fail
  refine Qab rfl (Qa N6) (fun K hK => ?_)
  go_simp
  refine hK _ _ ?_
  clear hK K
  refine Qab rfl (Qa N6) (fun K hK => ?_)
  go_simp
  refine hK _ _ ?_
  clear hK K
  refine Qab rfl (Qa N6) (fun K hK => ?_)
  go_simp
  refine hK _ _ ?_
  clear hK K
  refine Qar (Qa N7) (hPP _ _ ?_)
  clear hPP hPQ
  go_wp2_with fail
  clear y0 y1 y2 y3 y4 yf
  refine hl.mono ?_
  clear hl
  rintro en w8 ⟨rfl, hR8, k8⟩
  obtain ⟨k7, n7, q7, hX7⟩ := Qa K7
  have g3 := Qa HG
  obtain ⟨z0, z1, z2, z3, z4, zf⟩ := ex5 (k8.keep n7 (by omega))
  have hX8 := Qaf.same _ _ w8 _ _ hX7 k8.size (fun b hs hl => k8.block b hl (by omega))
  obtain ⟨y0, y1, y2, y3, y4, yf⟩ := ex5 (k8.keep q7 (by omega))
  have HF := hide (Qce (x := (.mk 2 t.num [] [] (t.at_ : Int))) (gb := w.heap.size) hX8 (fun b hb => ⟨by omega, by omega⟩) hR8 (k7.trans k8) (Nat.le_refl _) hrb)
  clear hR8 k8 k7 n7 q7 hX7 hX8 zf K7 g3
  go_wp2_with fail
  refine bodyPost_ret (v := .agg #[.int .i64 2, .int .i64 t.num, .string ⟨#[]⟩, .slice none 0 0, .int .i64 (t.at_ : Int)]) (by simp [results, Tryz.results208, go_sem, y0, y1, y2, y3, y4]) rfl ?_
  rw [Qa HPO]
  exact ⟨_, rfl, Qa HF _ _ _ _ _⟩
 have g2 : (t.kind == 2) = false := by simpa using c2
 by_cases c3 : t.kind = 3
 ·
  have g3 : (t.kind == 3) = true := by simpa using c3
  obtain ⟨t', l2, rfl, hk⟩ := Qef (ht ▸ c3) (by decide)
  clear hk
  have e0 : t = t' := ht
  subst e0
  obtain ⟨i2, hi2⟩ : ∃ i2, i2 = it := ⟨_, rfl⟩
  have HPO2 : Hid (PO = fun en w' => Ans rb e dp w (fun w2 v x => VE (fun b => w.heap.size ≤ b) w2 v x) (.ok (.mk 3 0 t.text [] t.at_) l2 i2) en w') := by
   have := Qa HPO
   rw [factorB, if_neg (ht ▸ c2), if_pos (ht ▸ c3)] at this
   rw [hi2]; exact this
  have htk : Calls Tryz.prog 147 #[.pointer (some ⟨rb, 0, none⟩)] w5.drew fun en w' => en = .returned (.agg #[.int .i64 t.kind, str t.text, .int .i64 t.num, .int .i64 (t.at_ : Int)]) ∧ Rd rb e w' l2 i2 (dp + 1) ∧ Kp rb w5.drew w' := by rw [hi2]; exact Qdf (hR5.later ((Below.refl _ w5).drew))
  clear HPO ht c2 c3 hR5 hi2
  have HPO := HPO2
  clear HPO2
  go_wp2_with fail
  rw [← Qa HW5]
  clear HW5 htb
  go_wp2_with fail
  refine Qcc (m := 6) (ml := [(0, 1), (3, 1), (4, 1), (1, 0), (2, 0), (5, 0), (6, 0)]) (fun _ w' => w'.heap[tb]? = some (.cells #[.int .i64 t.kind, str t.text, .int .i64 t.num, .int .i64 (t.at_ : Int)] 49 (0, 0))) mixed (by kernel_rfl) rfl (by rfl) (by kernel_rfl) (fun c a d v w h => by cases d <;> exact h) (fun PP PQ hPP hPQ => ?_)
  refine Qac rfl (by kernel_rfl) (fun _ _ _ => by go_simp <;> rfl) ?_
  refine Qac rfl (by kernel_rfl) (fun _ _ _ => by go_simp <;> rfl) ?_
  refine Qac rfl (by kernel_rfl) (fun f w' hw => by obtain ⟨u0, u1, u2, u3⟩ := tk4 hw; go_simp <;> rfl) ?_
  refine Qab rfl (Qa K5).2.1 (fun K hK => ?_)
  go_simp
  refine htk.mono ?_
  clear htk
  rintro en w6 ⟨rfl, hR6, k56'⟩
  obtain ⟨k5, n5, x5, q5, g1, g2⟩ := Qa K5
  have k56 : Kp rb w5 w6 := (Kp.of_below ((Below.refl _ w5).drew)).trans k56'
  have hs56 := k56.size
  have h5s := Qag n5
  have k6 := k5.trans k56
  have x6 := k56.keep x5 (by omega)
  have q6 := k56.keep q5 (by omega)
  have n6 := k56.keep n5 (by omega)
  have hX6 : ExS (fun b => w.heap.size < b ∧ b ≠ xb) w6 [.int .i64 3, .int .i64 0, str t.text, .slice none 0 0, .int .i64 (t.at_ : Int)] (.mk 3 0 t.text [] (t.at_ : Int)) := Qbu _ w6 _ _ _ _
  obtain ⟨w7, hw7⟩ : ∃ w7, w7 = ((((w6.setCell ⟨xb, 0, none⟩ (.int .i64 3)).setCell ⟨xb, 1, none⟩ (.int .i64 0)).setCell ⟨xb, 2, none⟩ (str t.text)).setCell ⟨xb, 3, none⟩ (.slice none 0 0)).setCell ⟨xb, 4, none⟩ (.int .i64 (t.at_ : Int)) := ⟨_, rfl⟩
  have n7 : w7.heap[xb]? = some (.cells #[.int .i64 3, .int .i64 0, str t.text, .slice none 0 0, .int .i64 (t.at_ : Int)] 88 (0, 0)) := by rw [hw7]; exact (Qae (Qae (Qae (Qae (Qae x6 0 _) 1 _) 2 _) 3 _) 4 _).trans rfl
  have hsame : ∀ b, b ≠ xb → w7.heap[b]? = w6.heap[b]? := fun b hb => by
   rw [hw7, hpS hb, hpS hb, hpS hb, hpS hb, hpS hb]
  have s7 : w6.heap.size = w7.heap.size := by rw [hw7]; simp [World.setCell]
  have q7 : w7.heap[w.heap.size]? = some exZ := (hsame _ (by omega)).trans q6
  have k7 : Kp rb w w7 := by rw [hw7]; exact ((((k6.set2 (by omega)).set2 (by omega)).set2 (by omega)).set2 (by omega)).set2 (by omega)
  have hR7 : Rd rb e w7 l2 i2 (dp + 1) := by rw [hw7]; exact ((((hR6.set2 (by omega)).set2 (by omega)).set2 (by omega)).set2 (by omega)).set2 (by omega)
  have hX7 : ExS (fun b => w.heap.size < b ∧ b ≠ xb) w7 [.int .i64 3, .int .i64 0, str t.text, .slice none 0 0, .int .i64 (t.at_ : Int)] (.mk 3 0 t.text [] (t.at_ : Int)) := Qaf.same _ _ w7 _ _ hX6 (by omega) (fun b hs _ => hsame b hs.2)
  have hl := Qea hR7 (Qa HP).2.2.2.2
  have K7 := hide (Ya k7 (Ya n7 (Ya q7 hX7)))
  have HW7 := hide hw7
  obtain ⟨y0, y1, y2, y3, y4, yf⟩ := ex5 x6
  have N6 := hide n6
  have N7 := hide ((hsame tb (by omega)).trans n6)
  clear hR6 k56 k56' k5 n5 x5 q5 g1 g2 hs56 h5s k6 x6 q6 n6 hX6 n7 hsame s7 q7 k7 hR7 hX7 K5 tc0 tc1 tc2 tc3
  subst hw7
  clear HW7
  go_wp2_with fail
  refine Qab rfl (Qa N6) (fun K hK => ?_)
  go_simp
  refine hK _ _ ?_
  clear hK K
  refine Qab rfl (Qa N6) (fun K hK => ?_)
  go_simp
  refine hK _ _ ?_
  clear hK K
  refine Qab rfl (Qa N6) (fun K hK => ?_)
  go_simp
  refine hK _ _ ?_
  clear hK K
  refine Qar (Qa N7) (hPP _ _ ?_)
  clear hPP hPQ
  go_wp2_with fail
  clear y0 y1 y2 y3 y4 yf
  refine hl.mono ?_
  clear hl
  rintro en w8 ⟨rfl, hR8, k8⟩
  obtain ⟨k7, n7, q7, hX7⟩ := Qa K7
  have g3 := Qa HG
  obtain ⟨z0, z1, z2, z3, z4, zf⟩ := ex5 (k8.keep n7 (by omega))
  have hX8 := Qaf.same _ _ w8 _ _ hX7 k8.size (fun b hs hl => k8.block b hl (by omega))
  obtain ⟨y0, y1, y2, y3, y4, yf⟩ := ex5 (k8.keep q7 (by omega))
  have HF := hide (Qce (x := (.mk 3 0 t.text [] (t.at_ : Int))) (gb := w.heap.size) hX8 (fun b hb => ⟨by omega, by omega⟩) hR8 (k7.trans k8) (Nat.le_refl _) hrb)
  clear hR8 k8 k7 n7 q7 hX7 hX8 zf K7 g3
  go_wp2_with fail
  refine bodyPost_ret (v := .agg #[.int .i64 3, .int .i64 0, str t.text, .slice none 0 0, .int .i64 (t.at_ : Int)]) (by simp [results, Tryz.results208, go_sem, y0, y1, y2, y3, y4]) rfl ?_
  rw [Qa HPO]
  exact ⟨_, rfl, Qa HF _ _ _ _ _⟩
 have g3 : (t.kind == 3) = false := by simpa using c3
 by_cases c1 : t.kind = 1
 ·
  have g1 : (t.kind == 1) = true := by simpa using c1
  have hm := Qkd hR5 (ht ▸ c1)
  have hV : factorB e E F l it = varP e l it := by
   rw [factorB, if_neg (ht ▸ c2), if_neg (ht ▸ c3), if_pos (ht ▸ c1)]; rfl
  rw [hV] at HPO
  clear ht c1 c2 c3 hR5 hV
  go_wp2_with fail
  rw [← Qa HW5]
  clear HW5 htb
  cases hq : varP e l it with
  | bad why at1 l2 =>
   rw [hq] at hm HPO
   clear hq
   go_wp2_with fail
   refine hm.mono ?_
   clear hm
   rintro en w6 ⟨rfl, k6⟩
   have H6 := hide ((Qa K5).1.trans k6)
   clear k6
   go_wp2_with fail
   refine ⟨rfl, ?_⟩
   rw [Qa HPO]
   exact ⟨rfl, Qa H6⟩
  | ok x l2 i2 =>
   rw [hq] at hm HPO
   clear hq
   go_wp2_with fail
   refine hm.mono ?_
   clear hm
   rintro en w6 ⟨_, rfl, ⟨_, rfl, ⟨xa, xn, xc, rfl⟩, hX⟩, hR6, k56⟩
   obtain ⟨k5, n5, x5, q5, g1, g2⟩ := Qa K5
   have hs56 := k56.size
   have h5s := Qag n5
   have k6 := k5.trans k56
   have x6 := k56.keep x5 (by omega)
   have q6 := k56.keep q5 (by omega)
   have hX6 := Qaf.mono _ (fun b => w.heap.size < b ∧ b ≠ xb) _ _ _ hX (fun b _ hs => ⟨by omega, by omega⟩)
   obtain ⟨w7, hw7⟩ : ∃ w7, w7 = ((((w6.setCell ⟨xb, 0, none⟩ (.int .i64 x.kind)).setCell ⟨xb, 1, none⟩ (.int .i64 x.num)).setCell ⟨xb, 2, none⟩ (str x.txt)).setCell ⟨xb, 3, none⟩ (.slice xa xn xc)).setCell ⟨xb, 4, none⟩ (.int .i64 x.at_) := ⟨_, rfl⟩
   have n7 : w7.heap[xb]? = some (.cells #[.int .i64 x.kind, .int .i64 x.num, str x.txt, .slice xa xn xc, .int .i64 x.at_] 88 (0, 0)) := by rw [hw7]; exact (Qae (Qae (Qae (Qae (Qae x6 0 _) 1 _) 2 _) 3 _) 4 _).trans rfl
   have hsame : ∀ b, b ≠ xb → w7.heap[b]? = w6.heap[b]? := fun b hb => by
    rw [hw7, hpS hb, hpS hb, hpS hb, hpS hb, hpS hb]
   have s7 : w6.heap.size = w7.heap.size := by rw [hw7]; simp [World.setCell]
   have q7 : w7.heap[w.heap.size]? = some exZ := (hsame _ (by omega)).trans q6
   have k7 : Kp rb w w7 := by rw [hw7]; exact ((((k6.set2 (by omega)).set2 (by omega)).set2 (by omega)).set2 (by omega)).set2 (by omega)
   have hR7 : Rd rb e w7 l2 i2 (dp + 1) := by rw [hw7]; exact ((((hR6.set2 (by omega)).set2 (by omega)).set2 (by omega)).set2 (by omega)).set2 (by omega)
   have hX7 : ExS (fun b => w.heap.size < b ∧ b ≠ xb) w7 [.int .i64 x.kind, .int .i64 x.num, str x.txt, .slice xa xn xc, .int .i64 x.at_] x := Qaf.same _ _ w7 _ _ hX6 (by omega) (fun b hs _ => hsame b hs.2)
   have hl := Qea hR7 (Qa HP).2.2.2.2
   have K7 := hide (Ya k7 (Ya n7 (Ya q7 hX7)))
   have HW7 := hide hw7
   obtain ⟨y0, y1, y2, y3, y4, yf⟩ := ex5 x6
   clear hX hR6 k56 k5 n5 x5 q5 g1 g2 hs56 h5s k6 x6 q6 hX6 hw7 n7 hsame s7 q7 k7 hR7 hX7 K5
   go_wp2_with fail
   rw [← Qa HW7]
   clear HW7 y0 y1 y2 y3 y4 yf
   refine hl.mono ?_
   clear hl
   rintro en w8 ⟨rfl, hR8, k8⟩
   obtain ⟨k7, n7, q7, hX7⟩ := Qa K7
   have g3 := Qa HG
   obtain ⟨z0, z1, z2, z3, z4, zf⟩ := ex5 (k8.keep n7 (by omega))
   have hX8 := Qaf.same _ _ w8 _ _ hX7 k8.size (fun b hs hl => k8.block b hl (by omega))
   obtain ⟨y0, y1, y2, y3, y4, yf⟩ := ex5 (k8.keep q7 (by omega))
   have HF := hide (Qce (x := x) (gb := w.heap.size) hX8 (fun b hb => ⟨by omega, by omega⟩) hR8 (k7.trans k8) (Nat.le_refl _) hrb)
   clear hR8 k8 k7 n7 q7 hX7 hX8 zf K7 g3
   go_wp2_with fail
   refine bodyPost_ret (v := .agg #[.int .i64 x.kind, .int .i64 x.num, str x.txt, .slice xa xn xc, .int .i64 x.at_]) (by simp [results, Tryz.results208, go_sem, y0, y1, y2, y3, y4]) rfl ?_
   rw [Qa HPO]
   exact ⟨_, rfl, Qa HF _ _ _ _ _⟩
 have g1 : (t.kind == 1) = false := by simpa using c1
 have hm := Qna (Qa HP).1 (Qa HP).2.1 (Qa HP).2.2.1 (Qa HP).2.2.2.1 hR5
 have hV : factorB e E F l it = signed e E F l it := by
  rw [factorB, if_neg (ht ▸ c2), if_neg (ht ▸ c3), if_neg (ht ▸ c1)]
 rw [hV] at HPO
 clear ht c1 c2 c3 hR5 hV
 go_wp2_with fail
 rw [← Qa HW5]
 clear HW5 htb
 cases hq : signed e E F l it with
 | bad why at1 l2 =>
  rw [hq] at hm HPO
  clear hq
  go_wp2_with fail
  refine hm.mono ?_
  clear hm
  rintro en w6 ⟨rfl, k6⟩
  have H6 := hide ((Qa K5).1.trans k6)
  clear k6
  go_wp2_with fail
  refine ⟨rfl, ?_⟩
  rw [Qa HPO]
  exact ⟨rfl, Qa H6⟩
 | ok x l2 i2 =>
  rw [hq] at hm HPO
  clear hq
  go_wp2_with fail
  refine hm.mono ?_
  clear hm
  rintro en w6 ⟨_, rfl, ⟨_, rfl, ⟨xa, xn, xc, rfl⟩, hX⟩, hR6, k56⟩
  obtain ⟨k5, n5, x5, q5, g1, g2⟩ := Qa K5
  have hs56 := k56.size
  have h5s := Qag n5
  have k6 := k5.trans k56
  have x6 := k56.keep x5 (by omega)
  have q6 := k56.keep q5 (by omega)
  have hX6 := Qaf.mono _ (fun b => w.heap.size < b ∧ b ≠ xb) _ _ _ hX (fun b _ hs => ⟨by omega, by omega⟩)
  obtain ⟨w7, hw7⟩ : ∃ w7, w7 = ((((w6.setCell ⟨xb, 0, none⟩ (.int .i64 x.kind)).setCell ⟨xb, 1, none⟩ (.int .i64 x.num)).setCell ⟨xb, 2, none⟩ (str x.txt)).setCell ⟨xb, 3, none⟩ (.slice xa xn xc)).setCell ⟨xb, 4, none⟩ (.int .i64 x.at_) := ⟨_, rfl⟩
  have n7 : w7.heap[xb]? = some (.cells #[.int .i64 x.kind, .int .i64 x.num, str x.txt, .slice xa xn xc, .int .i64 x.at_] 88 (0, 0)) := by rw [hw7]; exact (Qae (Qae (Qae (Qae (Qae x6 0 _) 1 _) 2 _) 3 _) 4 _).trans rfl
  have hsame : ∀ b, b ≠ xb → w7.heap[b]? = w6.heap[b]? := fun b hb => by
   rw [hw7, hpS hb, hpS hb, hpS hb, hpS hb, hpS hb]
  have s7 : w6.heap.size = w7.heap.size := by rw [hw7]; simp [World.setCell]
  have q7 : w7.heap[w.heap.size]? = some exZ := (hsame _ (by omega)).trans q6
  have k7 : Kp rb w w7 := by rw [hw7]; exact ((((k6.set2 (by omega)).set2 (by omega)).set2 (by omega)).set2 (by omega)).set2 (by omega)
  have hR7 : Rd rb e w7 l2 i2 (dp + 1) := by rw [hw7]; exact ((((hR6.set2 (by omega)).set2 (by omega)).set2 (by omega)).set2 (by omega)).set2 (by omega)
  have hX7 : ExS (fun b => w.heap.size < b ∧ b ≠ xb) w7 [.int .i64 x.kind, .int .i64 x.num, str x.txt, .slice xa xn xc, .int .i64 x.at_] x := Qaf.same _ _ w7 _ _ hX6 (by omega) (fun b hs _ => hsame b hs.2)
  have hl := Qea hR7 (Qa HP).2.2.2.2
  have K7 := hide (Ya k7 (Ya n7 (Ya q7 hX7)))
  have HW7 := hide hw7
  obtain ⟨y0, y1, y2, y3, y4, yf⟩ := ex5 x6
  clear hX hR6 k56 k5 n5 x5 q5 g1 g2 hs56 h5s k6 x6 q6 hX6 hw7 n7 hsame s7 q7 k7 hR7 hX7 K5
  go_wp2_with fail
  rw [← Qa HW7]
  clear HW7 y0 y1 y2 y3 y4 yf
  refine hl.mono ?_
  clear hl
  rintro en w8 ⟨rfl, hR8, k8⟩
  obtain ⟨k7, n7, q7, hX7⟩ := Qa K7
  have g3 := Qa HG
  obtain ⟨z0, z1, z2, z3, z4, zf⟩ := ex5 (k8.keep n7 (by omega))
  have hX8 := Qaf.same _ _ w8 _ _ hX7 k8.size (fun b hs hl => k8.block b hl (by omega))
  obtain ⟨y0, y1, y2, y3, y4, yf⟩ := ex5 (k8.keep q7 (by omega))
  have HF := hide (Qce (x := x) (gb := w.heap.size) hX8 (fun b hb => ⟨by omega, by omega⟩) hR8 (k7.trans k8) (Nat.le_refl _) hrb)
  clear hR8 k8 k7 n7 q7 hX7 hX8 zf K7 g3
  go_wp2_with fail
  refine bodyPost_ret (v := .agg #[.int .i64 x.kind, .int .i64 x.num, str x.txt, .slice xa xn xc, .int .i64 x.at_]) (by simp [results, Tryz.results208, go_sem, y0, y1, y2, y3, y4]) rfl ?_
  rw [Qa HPO]
  exact ⟨_, rfl, Qa HF _ _ _ _ _⟩
end
section
open Go.RowKit Go.Maps
theorem num_ex {e : Nat} : ∀ (d : Nat) (l : List Tok) (it : Nat) (x : Ex) (l2 : List Tok) (i2 : Nat), (ahd e 0 l).kind = 2 → (exD e d).2 l it = .ok x l2 i2 → x.num = (ahd e 0 l).num
 | 0, l, it, x, l2, i2, hk, h => by cases h
 | d + 1, l, it, x, l2, i2, hk, h => by
  have h' : factorB e (exD e d).1 (exD e d).2 l it = .ok x l2 i2 := h
  rw [factorB, if_pos hk] at h'
  cases h'; rfl
theorem Qlo {rb e : Nat} : ∀ (d dp : Nat), dp + d = 32 → OpC 182 rb e dp (exD e d).1 ∧ OpC 208 rb e dp (exD e d).2
 | 0, dp, h => by
  obtain rfl : dp = 32 := h
  exact ⟨expr_no, Qog⟩
 | d + 1, dp, h => by
  have ih := Qlo (rb := rb) (e := e) d (dp + 1) (by omega)
  exact ⟨Qrv (by omega) (Qss ih.2 (Qee d).2) (Qfo (Qee d).2), Qmo (by omega) ih.1 (Qee d).1 ih.2 (num_ex d)⟩
end
section
open Go.RowKit Go.Maps
theorem cl3 {w : World} {b : Nat} {T : TypeId} {v0 v1 v2 : Value} (h : w.heap[b]? = some (.cells #[v0, v1, v2] T (0, 0))) :
  w.cell? ⟨b, 0, none⟩ = some v0 ∧ w.cell? ⟨b, 1, none⟩ = some v1 ∧ w.cell? ⟨b, 2, none⟩ = some v2 ∧ ∀ o, w.frozen? ⟨b, o, none⟩ = false :=
 ⟨(Qad h 0).trans rfl, (Qad h 1).trans rfl, (Qad h 2).trans rfl, fun o => by simp [World.frozen?, h]⟩
abbrev amZ : Obj := .cells #[.string ⟨#[]⟩, .slice none 0 0, .int .i64 0] 77
def AmS (S : Nat → Prop) (w : World) (cs : List Value) (a : Atm) : Prop := ∃ xa xn xc, cs = [str a.rel, .slice xa xn xc, .int .i64 a.at_] ∧ LsAt PE 5 S w (.slice xa xn xc) a.args
def VAm (S : Nat → Prop) (w : World) (v : Value) (a : Atm) : Prop := ∃ xa xn xc, v = .agg #[str a.rel, .slice xa xn xc, .int .i64 a.at_] ∧ LsAt PE 5 S w (.slice xa xn xc) a.args

theorem Qhs {rb e dp d : Nat} (hd : dp + d = 32) {w : World} {l : List Tok} {it : Nat} (h : Rd rb e w l it dp) :
  Calls Tryz.prog 161 #[.pointer (some ⟨rb, 0, none⟩)] w fun en w' => Ans rb e dp w (fun w2 v x => VAm (fun b => w.heap.size ≤ b) w2 v x) (atomP e d l it) en w' := by
 obtain ⟨w1, hw1⟩ : ∃ w1, w1 = w.alloc amZ := ⟨_, rfl⟩
 have b1 : Below w.heap.size w w1 := by rw [hw1]; exact (Below.refl _ w).alloc (Nat.le_refl _) _
 have q1 : w1.heap[w.heap.size]? = some amZ := by rw [hw1]; exact heap_alloc_new w _
 have s1 : w1.heap.size = w.heap.size + 1 := by rw [hw1]; simp
 have ha := Qbc (h.later b1) 0
 unfold tokV at ha
 have hrb := h.lt
 obtain ⟨PO, hPO⟩ : ∃ PO : Ending → World → Prop, PO = fun en w' => Ans rb e dp w (fun w2 v x => VAm (fun b => w.heap.size ≤ b) w2 v x) (atomP e d l it) en w' := ⟨_, rfl⟩
 rw [← hPO]
 have HW1 : Hid (w1 = w.alloc (.cells #[.string ⟨#[]⟩, .slice none 0 0, .int .i64 0] 77)) := hw1
 have HH := hide (Ya h (Ya b1 (Ya q1 s1)))
 have HPO := hide hPO
 have HP := hide (Ya (Qlo (rb := rb) (e := e) d dp hd).1 (Qee (e := e) d).1)
 obtain ⟨t, ht⟩ : ∃ t, t = ahd e 0 l := ⟨_, rfl⟩
 rw [← ht] at ha
 have hsg : Hid (atomP e d l it = (nmQ e l it).bind fun n l2 i => (encl e [40] [41] (exD e d).1 l2 i).map fun ks => ⟨n, ks, t.at_⟩) := by rw [ht]; rfl
 generalize atomP e d l it = sr at HPO hsg
 clear h b1 q1 s1 hw1 hPO ht hd
 go_enter Tryz.func161, Tryz.ntmps161
 go_wp2_with fail
 rw [← Qa HW1]
 refine ha.mono ?_
 clear ha
 rintro en w2 ⟨rfl, b2⟩
 obtain ⟨h, b1, q1, s1⟩ := Qa HH
 have hs2 := b2.size
 obtain ⟨w3, hw3⟩ : ∃ w3, w3 = w2.alloc (.cells #[.string ⟨#[]⟩, .slice none 0 0, .int .i64 (t.at_ : Int)] 77) := ⟨_, rfl⟩
 have b3 : Below w.heap.size w w3 := by rw [hw3]; exact (b1.trans (b2.mono (by omega))).alloc (by omega) _
 have n3 : w3.heap[w2.heap.size]? = some (.cells #[.string ⟨#[]⟩, .slice none 0 0, .int .i64 (t.at_ : Int)] 77 (0, 0)) := by rw [hw3]; exact heap_alloc_new w2 _
 have q3 : w3.heap[w.heap.size]? = some amZ := by rw [hw3, Below.heap_alloc _ _ _ (by omega)]; exact (b2.block _ (by omega)).trans q1
 have s3 : w3.heap.size = w2.heap.size + 1 := by rw [hw3]; simp
 have hc := Qs (h.later b3)
 have HW3 := hide hw3
 have K3 := hide (Ya (Kp.of_below (rb := rb) b3) (Ya n3 (Ya q3 (Ya (by omega : w.heap.size + 1 ≤ w2.heap.size) s3))))
 generalize hxb : w2.heap.size = xb at K3
 clear h b1 q1 s1 hs2 b2 b3 n3 q3 s3 hw3 HH
 go_wp2_with fail
 rename_i hK
 refine hK _ _ ?_
 clear hK
 cases hq : nmQ e l it with
 | bad why at1 l2 =>
  rw [hq] at hc hsg
  rw [Qa hsg] at HPO
  clear hq hsg
  go_wp2_with fail
  rw [← Qa HW3]
  refine hc.mono ?_
  clear hc
  rintro en w4 ⟨rfl, k4⟩
  have H4 := hide ((Qa K3).1.trans k4)
  clear k4
  go_wp2_with fail
  refine ⟨rfl, ?_⟩
  rw [Qa HPO]
  exact ⟨rfl, Qa H4⟩
 | ok s l2 i2 =>
  rw [hq] at hc hsg
  clear hq
  go_wp2_with fail
  rw [← Qa HW3]
  clear HW3 hxb
  refine hc.mono ?_
  clear hc
  rintro en w4 ⟨_, rfl, rfl, hR4, k4⟩
  obtain ⟨k3, n3, q3, g1, s3⟩ := Qa K3
  have hs4 := k4.size
  have n4 := k4.keep n3 (by omega)
  have q4 := k4.keep q3 (by omega)
  have hne : w.heap.size ≠ xb := by omega
  obtain ⟨c0, c1, c2, cf⟩ := cl3 n4
  obtain ⟨w5, hw5⟩ : ∃ w5, w5 = w4.setCell ⟨xb, 0, none⟩ (str s) := ⟨_, rfl⟩
  have n5 : w5.heap[xb]? = some (.cells #[str s, .slice none 0 0, .int .i64 (t.at_ : Int)] 77 (0, 0)) := by rw [hw5]; exact (Qae n4 0 _).trans rfl
  have q5 : w5.heap[w.heap.size]? = some amZ := by rw [hw5, hpS hne]; exact q4
  have k5 : Kp rb w w5 := by rw [hw5]; exact (k3.trans k4).set2 (by omega)
  have hR5 : Rd rb e w5 l2 i2 dp := by rw [hw5]; exact hR4.set2 (by omega)
  have s5 : w4.heap.size = w5.heap.size := by rw [hw5]; simp [World.setCell]
  have hen := Qir PE Qaf (Qlz (Qa HP).1) (Qa HP).2 hR5 [40] [41] (by decide) (by decide)
  have HW5 := hide hw5
  have K5 := hide (Ya k5 (Ya n5 (Ya q5 (Ya g1 (by omega : xb < w5.heap.size)))))
  clear k3 n3 q3 g1 s3 hs4 n4 q4 c1 c2 hw5 n5 q5 k5 hR5 s5 K3 hR4 k4
  cases hq : encl e [40] [41] (exD e d).1 l2 i2 with
  | bad why at1 l4 =>
   have HPO2 : Hid (PO = fun en w' => Ans rb e dp w (fun w2 v x => VAm (fun b => w.heap.size ≤ b) w2 v x) (.bad why at1 l4) en w') := by
    have := Qa HPO
    rw [Qa hsg, Rs.bind, hq] at this
    exact this
   rw [hq] at hen
   clear hq HPO hsg
   go_wp2_with fail
   rw [← Qa HW5]
   refine hen.mono ?_
   clear hen
   rintro en w7 ⟨rfl, k7⟩
   have H7 := hide ((Qa K5).1.trans k7)
   clear k7
   go_wp2_with fail
   refine ⟨rfl, ?_⟩
   rw [Qa HPO2]
   exact ⟨rfl, Qa H7⟩
  | ok ks l4 i4 =>
   have HPO2 : Hid (PO = fun en w' => Ans rb e dp w (fun w2 v x => VAm (fun b => w.heap.size ≤ b) w2 v x) (.ok ⟨s, ks, t.at_⟩ l4 i4) en w') := by
    have := Qa HPO
    rw [Qa hsg, Rs.bind, hq] at this
    exact this
   rw [hq] at hen
   clear hq HPO hsg
   go_wp2_with fail
   rw [← Qa HW5]
   clear HW5
   refine hen.mono ?_
   clear hen
   rintro en w7 ⟨_, rfl, hL, hR7, k7⟩
   obtain ⟨ka, kc, _, ev, _⟩ := id hL
   subst ev
   obtain ⟨k5, n5, q5, g1, g2⟩ := Qa K5
   have n7 := k7.keep n5 (by omega)
   have q7 := k7.keep q5 (by omega)
   obtain ⟨w8, hw8⟩ : ∃ w8, w8 = w7.setCell ⟨xb, 1, none⟩ (.slice ka ks.length kc) := ⟨_, rfl⟩
   have n8 : w8.heap[xb]? = some (.cells #[str s, .slice ka ks.length kc, .int .i64 (t.at_ : Int)] 77 (0, 0)) := by rw [hw8]; exact (Qae n7 1 _).trans rfl
   have q8 : w8.heap[w.heap.size]? = some amZ := by rw [hw8, hpS hne]; exact q7
   have k8 : Kp rb w w8 := by rw [hw8]; exact (k5.trans k7).set2 (by omega)
   have hR8 : Rd rb e w8 l4 i4 dp := by rw [hw8]; exact hR7.set2 (by omega)
   have hL8 : LsAt PE 5 (fun b => w5.heap.size ≤ b) w8 (.slice ka ks.length kc) ks := by
    refine hL.same Qaf (by rw [hw8]; simp [World.setCell]) (fun b hb hl => ?_)
    have hb' : w5.heap.size ≤ b := hb
    have hn : b ≠ xb := by omega
    rw [hw8, hpS hn]
   obtain ⟨x0, x1, x2, xf⟩ := cl3 n7
   obtain ⟨z0, z1, z2, zf⟩ := cl3 n8
   obtain ⟨y0, y1, y2, yf⟩ := cl3 q8
   have HF : Hid (∀ q0 q1 q2, VAm (fun b => w.heap.size ≤ b) (((w8.setCell ⟨w.heap.size, 0, none⟩ q0).setCell ⟨w.heap.size, 1, none⟩ q1).setCell ⟨w.heap.size, 2, none⟩ q2) (.agg #[str s, .slice ka ks.length kc, .int .i64 (t.at_ : Int)]) ⟨s, ks, t.at_⟩ ∧ Rd rb e (((w8.setCell ⟨w.heap.size, 0, none⟩ q0).setCell ⟨w.heap.size, 1, none⟩ q1).setCell ⟨w.heap.size, 2, none⟩ q2) l4 i4 dp ∧ Kp rb w (((w8.setCell ⟨w.heap.size, 0, none⟩ q0).setCell ⟨w.heap.size, 1, none⟩ q1).setCell ⟨w.heap.size, 2, none⟩ q2)) := fun q0 q1 q2 => by
    have hsame : ∀ b, b ≠ w.heap.size → (((w8.setCell ⟨w.heap.size, 0, none⟩ q0).setCell ⟨w.heap.size, 1, none⟩ q1).setCell ⟨w.heap.size, 2, none⟩ q2).heap[b]? = w8.heap[b]? := fun b hb => by
     rw [hpS hb, hpS hb, hpS hb]
    exact ⟨⟨_, _, _, rfl, (hL8.same Qaf (by simp [World.setCell]) (fun b hb hl => hsame b (by have hb' : w5.heap.size ≤ b := hb; omega))).mono Qaf (fun b _ hb => by have hb' : w5.heap.size ≤ b := hb; omega)⟩, ((hR8.set2 (by omega)).set2 (by omega)).set2 (by omega), ((k8.set2 (by omega)).set2 (by omega)).set2 (by omega)⟩
   clear hR7 k7 k5 n5 q5 g1 g2 n7 q7 n8 q8 k8 hR8 hL8 hL x0 x2 zf hne
   subst hw8
   go_wp2_with fail
   refine bodyPost_ret (v := .agg #[str s, .slice ka ks.length kc, .int .i64 t.at_]) (by simp [results, Tryz.results161, go_sem, y0, y1, y2]) rfl ?_
   rw [Qa HPO2]
   exact ⟨_, rfl, Qa HF _ _ _⟩
end
section
open Go.RowKit Go.Maps
theorem infoF : ∃ i0 : TypeInfo, Tryz.prog.info? 122 = some i0 ∧ i0.zero = some (.agg #[.string ⟨#[]⟩, .string ⟨#[]⟩]) ∧ i0.size = 2 ∧ i0.bytes = 32 := by
 have h : (Tryz.prog.info? 122).map (fun i => (i.zero, i.size, i.bytes)) = some (some (.agg #[.string ⟨#[]⟩, .string ⟨#[]⟩]), 2, 32) := by kernel_rfl
 obtain ⟨i0, hi, hi3⟩ := Option.map_eq_some_iff.1 h
 simp only [Prod.mk.injEq] at hi3
 exact ⟨i0, hi, hi3⟩
def PartF (p : PS Fld) (rb e dp : Nat) (part : Pr Fld) : Prop := ∀ (w : World) (l : List Tok) (it : Nat), Rd rb e w l it dp → Calls Tryz.prog 154 #[.pointer (some ⟨rb, 0, none⟩)] w fun en w' => Ans rb e dp w (fun w2 v x => ∃ c0 c1, v = .agg #[c0, c1] ∧ (∀ c ∈ ([c0, c1] : List Value), c.oneCell' = true) ∧ p (fun b => w.heap.size ≤ b) w2 [c0, c1] x) (part l it) en w'
end
section
open Go.RowKit Go.Maps

end
section
open Go.RowKit Go.Maps
theorem infoC : ∃ i0 : TypeInfo, Tryz.prog.info? 118 = some i0 ∧ i0.zero = some (.agg #[.string ⟨#[]⟩, .slice none 0 0]) ∧ i0.size = 2 ∧ i0.bytes = 40 := by
 have h : (Tryz.prog.info? 118).map (fun i => (i.zero, i.size, i.bytes)) = some (some (.agg #[.string ⟨#[]⟩, .slice none 0 0]), 2, 40) := by kernel_rfl
 obtain ⟨i0, hi, hi3⟩ := Option.map_eq_some_iff.1 h
 simp only [Prod.mk.injEq] at hi3
 exact ⟨i0, hi, hi3⟩
def PartC (p : PS Ctr) (rb e dp : Nat) (part : Pr Ctr) : Prop := ∀ (w : World) (l : List Tok) (it : Nat), Rd rb e w l it dp → Calls Tryz.prog 152 #[.pointer (some ⟨rb, 0, none⟩)] w fun en w' => Ans rb e dp w (fun w2 v x => ∃ c0 c1, v = .agg #[c0, c1] ∧ (∀ c ∈ ([c0, c1] : List Value), c.oneCell' = true) ∧ p (fun b => w.heap.size ≤ b) w2 [c0, c1] x) (part l it) en w'
end
section
open Go.RowKit Go.Maps
def PF : PS Fld := fun _ _ cs f => cs = [str f.name, str f.type]
theorem Qbt : PSok PF where
 mono := fun _ _ _ _ _ h _ => h
 same := fun _ _ _ _ _ h _ _ => h
theorem cl2 {w : World} {b : Nat} {T : TypeId} {v0 v1 : Value} (h : w.heap[b]? = some (.cells #[v0, v1] T (0, 0))) :
  w.cell? ⟨b, 0, none⟩ = some v0 ∧ w.cell? ⟨b, 1, none⟩ = some v1 ∧ ∀ o, w.frozen? ⟨b, o, none⟩ = false :=
 ⟨(Qad h 0).trans rfl, (Qad h 1).trans rfl, fun o => by simp [World.frozen?, h]⟩
abbrev ctZ : Obj := .cells #[.string ⟨#[]⟩, .slice none 0 0] 118
def PC : PS Ctr := fun S w cs c => ∃ xa xn xc, cs = [str c.name, .slice xa xn xc] ∧ LsAt PF 2 S w (.slice xa xn xc) c.fields
theorem Qcz : PSok PC where
 mono := fun _ _ _ _ _ ⟨xa, xn, xc, h1, h2⟩ hS => ⟨xa, xn, xc, h1, h2.mono Qbt hS⟩
 same := fun _ _ _ _ _ ⟨xa, xn, xc, h1, h2⟩ hs hb => ⟨xa, xn, xc, h1, h2.same Qbt hs hb⟩
end
section
open Go.RowKit Go.Maps
abbrev inZ : Obj := .cells #[.string ⟨#[]⟩, .string ⟨#[]⟩, .int .i64 0] 72
end
section
open Go.RowKit Go.Maps
theorem cl4 {w : World} {b : Nat} {T : TypeId} {v0 v1 v2 v3 : Value} (h : w.heap[b]? = some (.cells #[v0, v1, v2, v3] T (0, 0))) :
  w.cell? ⟨b, 0, none⟩ = some v0 ∧ w.cell? ⟨b, 1, none⟩ = some v1 ∧ w.cell? ⟨b, 2, none⟩ = some v2 ∧ w.cell? ⟨b, 3, none⟩ = some v3 ∧ ∀ o, w.frozen? ⟨b, o, none⟩ = false :=
 ⟨(Qad h 0).trans rfl, (Qad h 1).trans rfl, (Qad h 2).trans rfl, (Qad h 3).trans rfl, fun o => by simp [World.frozen?, h]⟩
abbrev tyZ : Obj := .cells #[.string ⟨#[]⟩, .string ⟨#[]⟩, .slice none 0 0, .int .i64 0] 58
def VTy (S : Nat → Prop) (w : World) (v : Value) (x : Typ) : Prop := ∃ xa xn xc, v = .agg #[str x.name, str x.sub, .slice xa xn xc, .int .i64 x.at_] ∧ LsAt PC 2 S w (.slice xa xn xc) x.ctors
end
section
open Go.RowKit Go.Maps
theorem cl5 {w : World} {b : Nat} {T : TypeId} {v0 v1 v2 v3 v4 : Value} (h : w.heap[b]? = some (.cells #[v0, v1, v2, v3, v4] T (0, 0))) :
  w.cell? ⟨b, 0, none⟩ = some v0 ∧ w.cell? ⟨b, 1, none⟩ = some v1 ∧ w.cell? ⟨b, 2, none⟩ = some v2 ∧ w.cell? ⟨b, 3, none⟩ = some v3 ∧ w.cell? ⟨b, 4, none⟩ = some v4 ∧ ∀ o, w.frozen? ⟨b, o, none⟩ = false :=
 ⟨(Qad h 0).trans rfl, (Qad h 1).trans rfl, (Qad h 2).trans rfl, (Qad h 3).trans rfl, (Qad h 4).trans rfl, fun o => by simp [World.frozen?, h]⟩
abbrev dcZ : Obj := .cells #[.string ⟨#[]⟩, .slice none 0 0, .bool false, .bool false, .int .i64 0] 63
def VDc (S : Nat → Prop) (w : World) (v : Value) (x : Dcl) : Prop := ∃ xa xn xc, v = .agg #[str x.name, .slice xa xn xc, .bool x.input, .bool x.output, .int .i64 x.at_] ∧ LsAt PF 2 S w (.slice xa xn xc) x.cols
structure DI (rb e dp : Nat) (r0 : Rs (Bool × Bool)) (w : World) (xb : Nat) (s : Txt) (ka : Option Addr) (ks : List Fld) (kc : Nat) (at0 : Int) (wr : World) (a b : Bool) (l : List Tok) (it f : Nat) : Prop where
 kp : Kp rb w wr
 rd : Rd rb e wr l it dp
 box : wr.heap[xb]? = some (.cells #[str s, .slice ka ks.length kc, .bool a, .bool b, .int .i64 at0] 63 (0, 0))
 ls : LsAt PF 2 (fun k => w.heap.size < k ∧ k ≠ xb) wr (.slice ka ks.length kc) ks
 res : wr.heap[w.heap.size]? = some dcZ
 eq : r0 = flagL e f a b l it
 fuel : l.length + 1 ≤ f
 xb1 : w.heap.size < xb
theorem DI.later {rb e dp : Nat} {r0 : Rs (Bool × Bool)} {w : World} {xb : Nat} {s : Txt} {ka : Option Addr} {ks : List Fld} {kc : Nat} {at0 : Int} {wr : World} {a b : Bool} {l : List Tok} {it f : Nat} (h : DI rb e dp r0 w xb s ka ks kc at0 wr a b l it f) {w' : World} (hb : Below wr.heap.size wr w') : DI rb e dp r0 w xb s ka ks kc at0 w' a b l it f :=
 ⟨h.kp.trans (Kp.of_below hb), h.rd.later hb, (hb.block _ (Qag h.box)).trans h.box, h.ls.same Qbt hb.size (fun k _ hl => hb.block k hl), (hb.block _ (Qag h.res)).trans h.res, h.eq, h.fuel, h.xb1⟩
theorem DI.fin {rb e dp : Nat} {r0 : Rs (Bool × Bool)} {w : World} {xb : Nat} {s : Txt} {ka : Option Addr} {ks : List Fld} {kc : Nat} {at0 : Int} {w9 : World} {a b : Bool} {l : List Tok} {it f : Nat} (h : DI rb e dp r0 w xb s ka ks kc at0 w9 a b l it f) (hrb : rb < w.heap.size) (q0 q1 q2 q3 q4 : Value) :
  VDc (fun b => w.heap.size ≤ b) (((((w9.setCell ⟨w.heap.size, 0, none⟩ q0).setCell ⟨w.heap.size, 1, none⟩ q1).setCell ⟨w.heap.size, 2, none⟩ q2).setCell ⟨w.heap.size, 3, none⟩ q3).setCell ⟨w.heap.size, 4, none⟩ q4) (.agg #[str s, .slice ka ks.length kc, .bool a, .bool b, .int .i64 at0]) ⟨s, ks, a, b, at0⟩ ∧ Rd rb e (((((w9.setCell ⟨w.heap.size, 0, none⟩ q0).setCell ⟨w.heap.size, 1, none⟩ q1).setCell ⟨w.heap.size, 2, none⟩ q2).setCell ⟨w.heap.size, 3, none⟩ q3).setCell ⟨w.heap.size, 4, none⟩ q4) l it dp ∧ Kp rb w (((((w9.setCell ⟨w.heap.size, 0, none⟩ q0).setCell ⟨w.heap.size, 1, none⟩ q1).setCell ⟨w.heap.size, 2, none⟩ q2).setCell ⟨w.heap.size, 3, none⟩ q3).setCell ⟨w.heap.size, 4, none⟩ q4) := by
 have hsame : ∀ k, k ≠ w.heap.size → (((((w9.setCell ⟨w.heap.size, 0, none⟩ q0).setCell ⟨w.heap.size, 1, none⟩ q1).setCell ⟨w.heap.size, 2, none⟩ q2).setCell ⟨w.heap.size, 3, none⟩ q3).setCell ⟨w.heap.size, 4, none⟩ q4).heap[k]? = w9.heap[k]? := fun k hb => by
  rw [hpS hb, hpS hb, hpS hb, hpS hb, hpS hb]
 exact ⟨⟨_, _, _, rfl, (h.ls.same Qbt (by simp [World.setCell]) (fun k hk hl => hsame k (by have hk' : w.heap.size < k ∧ k ≠ xb := hk; omega))).mono Qbt (fun k _ hk => by have hk' : w.heap.size < k ∧ k ≠ xb := hk; omega)⟩, ((((h.rd.set2 (by omega)).set2 (by omega)).set2 (by omega)).set2 (by omega)).set2 (by omega), ((((h.kp.set2 (by omega)).set2 (by omega)).set2 (by omega)).set2 (by omega)).set2 (by omega)⟩
end
end Go.Proofs.YtjebglmpopijhaaGreatDoor
