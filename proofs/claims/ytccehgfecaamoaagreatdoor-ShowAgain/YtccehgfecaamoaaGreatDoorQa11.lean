/- syn: factor. syn: expressions of any depth. syn: atom. syn: the generic list, at Fld. -/
import Derived.Test.YtccehgfecaamoaaGreatDoorQa10
import Derived.Test.YtccehgfecaamoaaGreatDoorQa07
set_option maxRecDepth 100000
set_option maxHeartbeats 32000000
namespace Go.Proofs.YtccehgfecaamoaaGreatDoor
section
open Go.RowKit Go.Maps
theorem Qox {rb e : Nat} : OpC 169 rb e 32 (refuse e 4) := by
 intro w l it h
 obtain ⟨w1, hw1⟩ : ∃ w1, w1 = w.alloc exZ := ⟨_, rfl⟩
 have b1 : Below w.heap.size w w1 := by rw [hw1]; exact (Below.refl _ w).alloc (Nat.le_refl _) _
 have hc := Qhh (h.later b1)
 have HW1 : Hid (w1 = w.alloc (.cells #[.int .i64 0, .int .i64 0, .string ⟨#[]⟩, .slice none 0 0, .int .i64 0] 67)) := hw1
 obtain ⟨PO, hPO⟩ : ∃ PO : Ending → World → Prop, PO = fun en w' => Ans rb e 32 w (fun w2 v x => VE (fun b => w.heap.size ≤ b) w2 v x) (refuse e 4 l it) en w' := ⟨_, rfl⟩
 rw [← hPO]
 have HPO := hide hPO
 have B1 := hide b1
 clear hw1 h b1 hPO
 go_enter Tryz.func169, Tryz.ntmps169
 go_wp2_with fail
 rw [← Qa HW1]
 refine hc.mono ?_
 clear hc
 rintro en w3 ⟨rfl, b3⟩
 have H3 := hide (Kp.of_below (rb := rb) ((Qa B1).trans (b3.mono (Qa B1).size)))
 clear b3
 go_wp2_with fail
 refine ⟨rfl, ?_⟩
 rw [Qa HPO]
 exact ⟨rfl, Qa H3⟩

theorem Qmi {rb e dp : Nat} {E F : Pr Ex} (hd : dp < 32) (hE : OpC 144 rb e (dp + 1) E) (hsE : Shr E) (hF : OpC 169 rb e (dp + 1) F) (hnum : ∀ l it x l2 i2, (ahd e 0 l).kind = 2 → F l it = .ok x l2 i2 → x.num = (ahd e 0 l).num) : OpC 169 rb e dp (factorB e E F) := by
 have mixed : Tryz.prog.follows .mixedOrders = true := by kernel_rfl
 intro w l it h
 obtain ⟨w1, hw1⟩ : ∃ w1, w1 = w.alloc exZ := ⟨_, rfl⟩
 have b1 : Below w.heap.size w w1 := by rw [hw1]; exact (Below.refl _ w).alloc (Nat.le_refl _) _
 have q1 : w1.heap[w.heap.size]? = some exZ := by rw [hw1]; exact heap_alloc_new w _
 have s1 : w1.heap.size = w.heap.size + 1 := by rw [hw1]; simp
 have he := Qdt (h.later b1) hd
 have hrb := h.lt
 obtain ⟨PO, hPO⟩ : ∃ PO : Ending → World → Prop, PO = fun en w' => Ans rb e dp w (fun w2 v x => VE (fun b => w.heap.size ≤ b) w2 v x) (factorB e E F l it) en w' := ⟨_, rfl⟩
 rw [← hPO]
 have HW1 : Hid (w1 = w.alloc (.cells #[.int .i64 0, .int .i64 0, .string ⟨#[]⟩, .slice none 0 0, .int .i64 0] 67)) := hw1
 have HPO := hide hPO
 have HP := hide (Ya hE (Ya hsE (Ya hF (Ya hnum hd))))
 have K1 := hide (Ya b1 (Ya q1 s1))
 clear hE hsE hF hnum h b1 q1 s1 hw1 hPO hd
 go_enter Tryz.func169, Tryz.ntmps169
 go_wp2_with fail
 rw [← Qa HW1]
 refine he.mono ?_
 clear he
 rintro en w2 ⟨rfl, hR2, k2⟩
 obtain ⟨b1, q1, s1⟩ := Qa K1
 have hs2 := k2.size
 obtain ⟨w3, hw3⟩ : ∃ w3, w3 = w2.alloc exZ := ⟨_, rfl⟩
 have b3 : Below w2.heap.size w2 w3 := by rw [hw3]; exact (Below.refl _ w2).alloc (Nat.le_refl _) _
 have x3 : w3.heap[w2.heap.size]? = some exZ := by rw [hw3]; exact heap_alloc_new w2 _
 have k3 : Kp rb w w3 := ((Kp.of_below b1).trans k2).trans (Kp.of_below b3)
 have q3 : w3.heap[w.heap.size]? = some exZ := (b3.block _ (by omega)).trans (k2.keep q1 (by omega))
 have s3 : w3.heap.size = w2.heap.size + 1 := by rw [hw3]; simp
 have hR3 := hR2.later b3
 have ha := Qak hR3 0
 unfold tokV at ha
 have HW3 : Hid (w3 = w2.alloc (.cells #[.int .i64 0, .int .i64 0, .string ⟨#[]⟩, .slice none 0 0, .int .i64 0] 67)) := hw3
 have K3 := hide (Ya k3 (Ya x3 (Ya q3 (Ya hR3 (Ya s3 (by omega : w.heap.size + 1 ≤ w2.heap.size))))))
 obtain ⟨t, ht⟩ : ∃ t, t = ahd e 0 l := ⟨_, rfl⟩
 rw [← ht] at ha
 generalize hxb : w2.heap.size = xb at K3
 clear b1 q1 s1 hs2 hw3 b3 x3 k3 q3 s3 K1 hR2 k2 hR3
 go_wp2_with fail
 rw [← Qa HW3]
 clear HW3 hxb
 refine ha.mono ?_
 clear ha
 rintro en w4 ⟨rfl, b4⟩
 obtain ⟨k3, x3, q3, hR3, s3, g1⟩ := Qa K3
 have hs4 := b4.size
 obtain ⟨w5, hw5⟩ : ∃ w5, w5 = w4.alloc (.cells #[.int .i64 t.kind, str t.text, .int .i64 t.num, .int .i64 (t.at_ : Int)] 83) := ⟨_, rfl⟩
 have b5 : Below w3.heap.size w3 w5 := by rw [hw5]; exact b4.alloc b4.size _
 have n5 : w5.heap[w4.heap.size]? = some (.cells #[.int .i64 t.kind, str t.text, .int .i64 t.num, .int .i64 (t.at_ : Int)] 83 (0, 0)) := by rw [hw5]; exact heap_alloc_new w4 _
 have x5 : w5.heap[xb]? = some exZ := (b5.block _ (by omega)).trans x3
 have q5 : w5.heap[w.heap.size]? = some exZ := (b5.block _ (by omega)).trans q3
 have k5 := k3.trans (Kp.of_below b5)
 have hR5 := hR3.later b5
 have HG : Hid (w.heap.size + 1 ≤ xb) := g1
 have K5 := hide (Ya k5 (Ya n5 (Ya x5 (Ya q5 (Ya g1 (by omega : xb + 1 ≤ w4.heap.size))))))
 have HW5 := hide hw5
 obtain ⟨tc0, tc1, tc2, tc3⟩ := tk4 n5
 generalize htb : w4.heap.size = tb at tc0 tc1 tc2 tc3 K5
 clear k3 x3 q3 hR3 s3 g1 hs4 hw5 b5 n5 x5 q5 k5 K3 b4
 by_cases c2 : t.kind = 2
 ·
  have g2 : (t.kind == 2) = true := by simpa using c2
  obtain ⟨t', l2, rfl, hk⟩ := Qcv (ht ▸ c2) (by decide)
  clear hk
  have e0 : t = t' := ht
  subst e0
  obtain ⟨i2, hi2⟩ : ∃ i2, i2 = it := ⟨_, rfl⟩
  have HPO2 : Hid (PO = fun en w' => Ans rb e dp w (fun w2 v x => VE (fun b => w.heap.size ≤ b) w2 v x) (.ok (.mk 2 t.num [] [] t.at_) l2 i2) en w') := by
   have := Qa HPO
   rw [factorB, if_pos (ht ▸ c2)] at this
   rw [hi2]; exact this
  have htk : Calls Tryz.prog 110 #[.pointer (some ⟨rb, 0, none⟩)] w5.drew fun en w' => en = .returned (.agg #[.int .i64 t.kind, str t.text, .int .i64 t.num, .int .i64 (t.at_ : Int)]) ∧ Rd rb e w' l2 i2 (dp + 1) ∧ Kp rb w5.drew w' := by rw [hi2]; exact Qay (hR5.later ((Below.refl _ w5).drew))
  clear HPO ht c2 hR5 hi2
  have HPO := HPO2
  clear HPO2
  go_wp2_with fail
  rw [← Qa HW5]
  clear HW5 htb
  go_wp2_with fail
  refine Qam (m := 6) (ml := [(0, 1), (3, 1), (4, 1), (1, 0), (2, 0), (5, 0), (6, 0)]) (fun _ w' => w'.heap[tb]? = some (.cells #[.int .i64 t.kind, str t.text, .int .i64 t.num, .int .i64 (t.at_ : Int)] 83 (0, 0))) mixed (by kernel_rfl) rfl (by rfl) (by kernel_rfl) (fun c a d v w h => by cases d <;> exact h) (fun PP PQ hPP hPQ => ?_)
  refine Qab rfl (by kernel_rfl) (fun _ _ _ => by go_simp <;> rfl) ?_
  refine Qab rfl (by kernel_rfl) (fun _ _ _ => by go_simp <;> rfl) ?_
  refine Qab rfl (by kernel_rfl) (fun f w' hw => by obtain ⟨u0, u1, u2, u3⟩ := tk4 hw; go_simp <;> rfl) ?_
  refine Qad rfl (Qa K5).2.1 (fun K hK => ?_)
  go_simp
  refine htk.mono ?_
  clear htk
  rintro en w6 ⟨rfl, hR6, k56'⟩
  obtain ⟨k5, n5, x5, q5, g1, g2⟩ := Qa K5
  have k56 : Kp rb w5 w6 := (Kp.of_below ((Below.refl _ w5).drew)).trans k56'
  have hs56 := k56.size
  have h5s := Qaf n5
  have k6 := k5.trans k56
  have x6 := k56.keep x5 (by omega)
  have q6 := k56.keep q5 (by omega)
  have n6 := k56.keep n5 (by omega)
  have hX6 : ExS (fun b => w.heap.size < b ∧ b ≠ xb) w6 [.int .i64 2, .int .i64 t.num, .string ⟨#[]⟩, .slice none 0 0, .int .i64 (t.at_ : Int)] (.mk 2 t.num [] [] (t.at_ : Int)) := Qcx _ w6 _ _ _ _
  obtain ⟨w7, hw7⟩ : ∃ w7, w7 = ((((w6.setCell ⟨xb, 0, none⟩ (.int .i64 2)).setCell ⟨xb, 1, none⟩ (.int .i64 t.num)).setCell ⟨xb, 2, none⟩ (.string ⟨#[]⟩)).setCell ⟨xb, 3, none⟩ (.slice none 0 0)).setCell ⟨xb, 4, none⟩ (.int .i64 (t.at_ : Int)) := ⟨_, rfl⟩
  have n7 : w7.heap[xb]? = some (.cells #[.int .i64 2, .int .i64 t.num, .string ⟨#[]⟩, .slice none 0 0, .int .i64 (t.at_ : Int)] 67 (0, 0)) := by rw [hw7]; exact (Qac (Qac (Qac (Qac (Qac x6 0 _) 1 _) 2 _) 3 _) 4 _).trans rfl
  have hsame : ∀ b, b ≠ xb → w7.heap[b]? = w6.heap[b]? := fun b hb => by
   rw [hw7, hpS hb, hpS hb, hpS hb, hpS hb, hpS hb]
  have s7 : w6.heap.size = w7.heap.size := by rw [hw7]; simp [World.setCell]
  have q7 : w7.heap[w.heap.size]? = some exZ := (hsame _ (by omega)).trans q6
  have k7 : Kp rb w w7 := by rw [hw7]; exact ((((k6.set2 (by omega)).set2 (by omega)).set2 (by omega)).set2 (by omega)).set2 (by omega)
  have hR7 : Rd rb e w7 l2 i2 (dp + 1) := by rw [hw7]; exact ((((hR6.set2 (by omega)).set2 (by omega)).set2 (by omega)).set2 (by omega)).set2 (by omega)
  have hX7 : ExS (fun b => w.heap.size < b ∧ b ≠ xb) w7 [.int .i64 2, .int .i64 t.num, .string ⟨#[]⟩, .slice none 0 0, .int .i64 (t.at_ : Int)] (.mk 2 t.num [] [] (t.at_ : Int)) := Qae.same _ _ w7 _ _ hX6 (by omega) (fun b hs _ => hsame b hs.2)
  have hl := Qci hR7 (Qa HP).2.2.2.2
  have K7 := hide (Ya k7 (Ya n7 (Ya q7 hX7)))
  have HW7 := hide hw7
  obtain ⟨y0, y1, y2, y3, y4, yf⟩ := ex5 x6
  have N6 := hide n6
  have N7 := hide ((hsame tb (by omega)).trans n6)
  clear hR6 k56 k56' k5 n5 x5 q5 g1 g2 hs56 h5s k6 x6 q6 n6 hX6 n7 hsame s7 q7 k7 hR7 hX7 K5 tc0 tc1 tc2 tc3
  subst hw7
  clear HW7
  go_wp2_with fail
  refine Qad rfl (Qa N6) (fun K hK => ?_)
  go_simp
  refine hK _ _ ?_
  clear hK K
  refine Qad rfl (Qa N6) (fun K hK => ?_)
  go_simp
  refine hK _ _ ?_
  clear hK K
  refine Qad rfl (Qa N6) (fun K hK => ?_)
  go_simp
  refine hK _ _ ?_
  clear hK K
  refine Qaz (Qa N7) (hPP _ _ ?_)
  clear hPP hPQ
  go_wp2_with fail
  clear y0 y1 y2 y3 y4 yf
  refine hl.mono ?_
  clear hl
  rintro en w8 ⟨rfl, hR8, k8⟩
  obtain ⟨k7, n7, q7, hX7⟩ := Qa K7
  have g3 := Qa HG
  obtain ⟨z0, z1, z2, z3, z4, zf⟩ := ex5 (k8.keep n7 (by omega))
  have hX8 := Qae.same _ _ w8 _ _ hX7 k8.size (fun b hs hl => k8.block b hl (by omega))
  obtain ⟨y0, y1, y2, y3, y4, yf⟩ := ex5 (k8.keep q7 (by omega))
  have HF := hide (Qbl (x := (.mk 2 t.num [] [] (t.at_ : Int))) (gb := w.heap.size) hX8 (fun b hb => ⟨by omega, by omega⟩) hR8 (k7.trans k8) (Nat.le_refl _) hrb)
  clear hR8 k8 k7 n7 q7 hX7 hX8 zf K7 g3
  go_wp2_with fail
  refine bodyPost_ret (v := .agg #[.int .i64 2, .int .i64 t.num, .string ⟨#[]⟩, .slice none 0 0, .int .i64 (t.at_ : Int)]) (by simp [results, Tryz.results169, go_sem, y0, y1, y2, y3, y4]) rfl ?_
  rw [Qa HPO]
  exact ⟨_, rfl, Qa HF _ _ _ _ _⟩
 have g2 : (t.kind == 2) = false := by simpa using c2
 by_cases c3 : t.kind = 3
 ·
  have g3 : (t.kind == 3) = true := by simpa using c3
  obtain ⟨t', l2, rfl, hk⟩ := Qcv (ht ▸ c3) (by decide)
  clear hk
  have e0 : t = t' := ht
  subst e0
  obtain ⟨i2, hi2⟩ : ∃ i2, i2 = it := ⟨_, rfl⟩
  have HPO2 : Hid (PO = fun en w' => Ans rb e dp w (fun w2 v x => VE (fun b => w.heap.size ≤ b) w2 v x) (.ok (.mk 3 0 t.text [] t.at_) l2 i2) en w') := by
   have := Qa HPO
   rw [factorB, if_neg (ht ▸ c2), if_pos (ht ▸ c3)] at this
   rw [hi2]; exact this
  have htk : Calls Tryz.prog 110 #[.pointer (some ⟨rb, 0, none⟩)] w5.drew fun en w' => en = .returned (.agg #[.int .i64 t.kind, str t.text, .int .i64 t.num, .int .i64 (t.at_ : Int)]) ∧ Rd rb e w' l2 i2 (dp + 1) ∧ Kp rb w5.drew w' := by rw [hi2]; exact Qay (hR5.later ((Below.refl _ w5).drew))
  clear HPO ht c2 c3 hR5 hi2
  have HPO := HPO2
  clear HPO2
  go_wp2_with fail
  rw [← Qa HW5]
  clear HW5 htb
  go_wp2_with fail
  refine Qam (m := 6) (ml := [(0, 1), (3, 1), (4, 1), (1, 0), (2, 0), (5, 0), (6, 0)]) (fun _ w' => w'.heap[tb]? = some (.cells #[.int .i64 t.kind, str t.text, .int .i64 t.num, .int .i64 (t.at_ : Int)] 83 (0, 0))) mixed (by kernel_rfl) rfl (by rfl) (by kernel_rfl) (fun c a d v w h => by cases d <;> exact h) (fun PP PQ hPP hPQ => ?_)
  refine Qab rfl (by kernel_rfl) (fun _ _ _ => by go_simp <;> rfl) ?_
  refine Qab rfl (by kernel_rfl) (fun _ _ _ => by go_simp <;> rfl) ?_
  refine Qab rfl (by kernel_rfl) (fun f w' hw => by obtain ⟨u0, u1, u2, u3⟩ := tk4 hw; go_simp <;> rfl) ?_
  refine Qad rfl (Qa K5).2.1 (fun K hK => ?_)
  go_simp
  refine htk.mono ?_
  clear htk
  rintro en w6 ⟨rfl, hR6, k56'⟩
  obtain ⟨k5, n5, x5, q5, g1, g2⟩ := Qa K5
  have k56 : Kp rb w5 w6 := (Kp.of_below ((Below.refl _ w5).drew)).trans k56'
  have hs56 := k56.size
  have h5s := Qaf n5
  have k6 := k5.trans k56
  have x6 := k56.keep x5 (by omega)
  have q6 := k56.keep q5 (by omega)
  have n6 := k56.keep n5 (by omega)
  have hX6 : ExS (fun b => w.heap.size < b ∧ b ≠ xb) w6 [.int .i64 3, .int .i64 0, str t.text, .slice none 0 0, .int .i64 (t.at_ : Int)] (.mk 3 0 t.text [] (t.at_ : Int)) := Qcx _ w6 _ _ _ _
  obtain ⟨w7, hw7⟩ : ∃ w7, w7 = ((((w6.setCell ⟨xb, 0, none⟩ (.int .i64 3)).setCell ⟨xb, 1, none⟩ (.int .i64 0)).setCell ⟨xb, 2, none⟩ (str t.text)).setCell ⟨xb, 3, none⟩ (.slice none 0 0)).setCell ⟨xb, 4, none⟩ (.int .i64 (t.at_ : Int)) := ⟨_, rfl⟩
  have n7 : w7.heap[xb]? = some (.cells #[.int .i64 3, .int .i64 0, str t.text, .slice none 0 0, .int .i64 (t.at_ : Int)] 67 (0, 0)) := by rw [hw7]; exact (Qac (Qac (Qac (Qac (Qac x6 0 _) 1 _) 2 _) 3 _) 4 _).trans rfl
  have hsame : ∀ b, b ≠ xb → w7.heap[b]? = w6.heap[b]? := fun b hb => by
   rw [hw7, hpS hb, hpS hb, hpS hb, hpS hb, hpS hb]
  have s7 : w6.heap.size = w7.heap.size := by rw [hw7]; simp [World.setCell]
  have q7 : w7.heap[w.heap.size]? = some exZ := (hsame _ (by omega)).trans q6
  have k7 : Kp rb w w7 := by rw [hw7]; exact ((((k6.set2 (by omega)).set2 (by omega)).set2 (by omega)).set2 (by omega)).set2 (by omega)
  have hR7 : Rd rb e w7 l2 i2 (dp + 1) := by rw [hw7]; exact ((((hR6.set2 (by omega)).set2 (by omega)).set2 (by omega)).set2 (by omega)).set2 (by omega)
  have hX7 : ExS (fun b => w.heap.size < b ∧ b ≠ xb) w7 [.int .i64 3, .int .i64 0, str t.text, .slice none 0 0, .int .i64 (t.at_ : Int)] (.mk 3 0 t.text [] (t.at_ : Int)) := Qae.same _ _ w7 _ _ hX6 (by omega) (fun b hs _ => hsame b hs.2)
  have hl := Qci hR7 (Qa HP).2.2.2.2
  have K7 := hide (Ya k7 (Ya n7 (Ya q7 hX7)))
  have HW7 := hide hw7
  obtain ⟨y0, y1, y2, y3, y4, yf⟩ := ex5 x6
  have N6 := hide n6
  have N7 := hide ((hsame tb (by omega)).trans n6)
  clear hR6 k56 k56' k5 n5 x5 q5 g1 g2 hs56 h5s k6 x6 q6 n6 hX6 n7 hsame s7 q7 k7 hR7 hX7 K5 tc0 tc1 tc2 tc3
  subst hw7
  clear HW7
  go_wp2_with fail
  refine Qad rfl (Qa N6) (fun K hK => ?_)
  go_simp
  refine hK _ _ ?_
  clear hK K
  refine Qad rfl (Qa N6) (fun K hK => ?_)
  go_simp
  refine hK _ _ ?_
  clear hK K
  refine Qad rfl (Qa N6) (fun K hK => ?_)
  go_simp
  refine hK _ _ ?_
  clear hK K
  refine Qaz (Qa N7) (hPP _ _ ?_)
  clear hPP hPQ
  go_wp2_with fail
  clear y0 y1 y2 y3 y4 yf
  refine hl.mono ?_
  clear hl
  rintro en w8 ⟨rfl, hR8, k8⟩
  obtain ⟨k7, n7, q7, hX7⟩ := Qa K7
  have g3 := Qa HG
  obtain ⟨z0, z1, z2, z3, z4, zf⟩ := ex5 (k8.keep n7 (by omega))
  have hX8 := Qae.same _ _ w8 _ _ hX7 k8.size (fun b hs hl => k8.block b hl (by omega))
  obtain ⟨y0, y1, y2, y3, y4, yf⟩ := ex5 (k8.keep q7 (by omega))
  have HF := hide (Qbl (x := (.mk 3 0 t.text [] (t.at_ : Int))) (gb := w.heap.size) hX8 (fun b hb => ⟨by omega, by omega⟩) hR8 (k7.trans k8) (Nat.le_refl _) hrb)
  clear hR8 k8 k7 n7 q7 hX7 hX8 zf K7 g3
  go_wp2_with fail
  refine bodyPost_ret (v := .agg #[.int .i64 3, .int .i64 0, str t.text, .slice none 0 0, .int .i64 (t.at_ : Int)]) (by simp [results, Tryz.results169, go_sem, y0, y1, y2, y3, y4]) rfl ?_
  rw [Qa HPO]
  exact ⟨_, rfl, Qa HF _ _ _ _ _⟩
 have g3 : (t.kind == 3) = false := by simpa using c3
 by_cases c1 : t.kind = 1
 ·
  have g1 : (t.kind == 1) = true := by simpa using c1
  have hm := Qjp hR5 (ht ▸ c1)
  have hV : factorB e E F l it = varP e l it := by
   rw [factorB, if_neg (ht ▸ c2), if_neg (ht ▸ c3), if_pos (ht ▸ c1)]; rfl
  rw [hV] at HPO
  clear ht c1 c2 c3 hR5 hV
  go_wp2_with fail
  rw [← Qa HW5]
  clear HW5 htb
  cases hq : varP e l it with
  | bad why at1 l2 =>
   rw [hq] at hm HPO
   clear hq
   go_wp2_with fail
   refine hm.mono ?_
   clear hm
   rintro en w6 ⟨rfl, k6⟩
   have H6 := hide ((Qa K5).1.trans k6)
   clear k6
   go_wp2_with fail
   refine ⟨rfl, ?_⟩
   rw [Qa HPO]
   exact ⟨rfl, Qa H6⟩
  | ok x l2 i2 =>
   rw [hq] at hm HPO
   clear hq
   go_wp2_with fail
   refine hm.mono ?_
   clear hm
   rintro en w6 ⟨_, rfl, ⟨_, rfl, ⟨xa, xn, xc, rfl⟩, hX⟩, hR6, k56⟩
   obtain ⟨k5, n5, x5, q5, g1, g2⟩ := Qa K5
   have hs56 := k56.size
   have h5s := Qaf n5
   have k6 := k5.trans k56
   have x6 := k56.keep x5 (by omega)
   have q6 := k56.keep q5 (by omega)
   have hX6 := Qae.mono _ (fun b => w.heap.size < b ∧ b ≠ xb) _ _ _ hX (fun b _ hs => ⟨by omega, by omega⟩)
   obtain ⟨w7, hw7⟩ : ∃ w7, w7 = ((((w6.setCell ⟨xb, 0, none⟩ (.int .i64 x.kind)).setCell ⟨xb, 1, none⟩ (.int .i64 x.num)).setCell ⟨xb, 2, none⟩ (str x.txt)).setCell ⟨xb, 3, none⟩ (.slice xa xn xc)).setCell ⟨xb, 4, none⟩ (.int .i64 x.at_) := ⟨_, rfl⟩
   have n7 : w7.heap[xb]? = some (.cells #[.int .i64 x.kind, .int .i64 x.num, str x.txt, .slice xa xn xc, .int .i64 x.at_] 67 (0, 0)) := by rw [hw7]; exact (Qac (Qac (Qac (Qac (Qac x6 0 _) 1 _) 2 _) 3 _) 4 _).trans rfl
   have hsame : ∀ b, b ≠ xb → w7.heap[b]? = w6.heap[b]? := fun b hb => by
    rw [hw7, hpS hb, hpS hb, hpS hb, hpS hb, hpS hb]
   have s7 : w6.heap.size = w7.heap.size := by rw [hw7]; simp [World.setCell]
   have q7 : w7.heap[w.heap.size]? = some exZ := (hsame _ (by omega)).trans q6
   have k7 : Kp rb w w7 := by rw [hw7]; exact ((((k6.set2 (by omega)).set2 (by omega)).set2 (by omega)).set2 (by omega)).set2 (by omega)
   have hR7 : Rd rb e w7 l2 i2 (dp + 1) := by rw [hw7]; exact ((((hR6.set2 (by omega)).set2 (by omega)).set2 (by omega)).set2 (by omega)).set2 (by omega)
   have hX7 : ExS (fun b => w.heap.size < b ∧ b ≠ xb) w7 [.int .i64 x.kind, .int .i64 x.num, str x.txt, .slice xa xn xc, .int .i64 x.at_] x := Qae.same _ _ w7 _ _ hX6 (by omega) (fun b hs _ => hsame b hs.2)
   have hl := Qci hR7 (Qa HP).2.2.2.2
   have K7 := hide (Ya k7 (Ya n7 (Ya q7 hX7)))
   have HW7 := hide hw7
   obtain ⟨y0, y1, y2, y3, y4, yf⟩ := ex5 x6
   clear hX hR6 k56 k5 n5 x5 q5 g1 g2 hs56 h5s k6 x6 q6 hX6 hw7 n7 hsame s7 q7 k7 hR7 hX7 K5
   go_wp2_with fail
   rw [← Qa HW7]
   clear HW7 y0 y1 y2 y3 y4 yf
   refine hl.mono ?_
   clear hl
   rintro en w8 ⟨rfl, hR8, k8⟩
   obtain ⟨k7, n7, q7, hX7⟩ := Qa K7
   have g3 := Qa HG
   obtain ⟨z0, z1, z2, z3, z4, zf⟩ := ex5 (k8.keep n7 (by omega))
   have hX8 := Qae.same _ _ w8 _ _ hX7 k8.size (fun b hs hl => k8.block b hl (by omega))
   obtain ⟨y0, y1, y2, y3, y4, yf⟩ := ex5 (k8.keep q7 (by omega))
   have HF := hide (Qbl (x := x) (gb := w.heap.size) hX8 (fun b hb => ⟨by omega, by omega⟩) hR8 (k7.trans k8) (Nat.le_refl _) hrb)
   clear hR8 k8 k7 n7 q7 hX7 hX8 zf K7 g3
   go_wp2_with fail
   refine bodyPost_ret (v := .agg #[.int .i64 x.kind, .int .i64 x.num, str x.txt, .slice xa xn xc, .int .i64 x.at_]) (by simp [results, Tryz.results169, go_sem, y0, y1, y2, y3, y4]) rfl ?_
   rw [Qa HPO]
   exact ⟨_, rfl, Qa HF _ _ _ _ _⟩
 have g1 : (t.kind == 1) = false := by simpa using c1
 have hm := Qmw (Qa HP).1 (Qa HP).2.1 (Qa HP).2.2.1 (Qa HP).2.2.2.1 hR5
 have hV : factorB e E F l it = signed e E F l it := by
  rw [factorB, if_neg (ht ▸ c2), if_neg (ht ▸ c3), if_neg (ht ▸ c1)]
 rw [hV] at HPO
 clear ht c1 c2 c3 hR5 hV
 go_wp2_with fail
 rw [← Qa HW5]
 clear HW5 htb
 cases hq : signed e E F l it with
 | bad why at1 l2 =>
  rw [hq] at hm HPO
  clear hq
  go_wp2_with fail
  refine hm.mono ?_
  clear hm
  rintro en w6 ⟨rfl, k6⟩
  have H6 := hide ((Qa K5).1.trans k6)
  clear k6
  go_wp2_with fail
  refine ⟨rfl, ?_⟩
  rw [Qa HPO]
  exact ⟨rfl, Qa H6⟩
 | ok x l2 i2 =>
  rw [hq] at hm HPO
  clear hq
  go_wp2_with fail
  refine hm.mono ?_
  clear hm
  rintro en w6 ⟨_, rfl, ⟨_, rfl, ⟨xa, xn, xc, rfl⟩, hX⟩, hR6, k56⟩
  obtain ⟨k5, n5, x5, q5, g1, g2⟩ := Qa K5
  have hs56 := k56.size
  have h5s := Qaf n5
  have k6 := k5.trans k56
  have x6 := k56.keep x5 (by omega)
  have q6 := k56.keep q5 (by omega)
  have hX6 := Qae.mono _ (fun b => w.heap.size < b ∧ b ≠ xb) _ _ _ hX (fun b _ hs => ⟨by omega, by omega⟩)
  obtain ⟨w7, hw7⟩ : ∃ w7, w7 = ((((w6.setCell ⟨xb, 0, none⟩ (.int .i64 x.kind)).setCell ⟨xb, 1, none⟩ (.int .i64 x.num)).setCell ⟨xb, 2, none⟩ (str x.txt)).setCell ⟨xb, 3, none⟩ (.slice xa xn xc)).setCell ⟨xb, 4, none⟩ (.int .i64 x.at_) := ⟨_, rfl⟩
  have n7 : w7.heap[xb]? = some (.cells #[.int .i64 x.kind, .int .i64 x.num, str x.txt, .slice xa xn xc, .int .i64 x.at_] 67 (0, 0)) := by rw [hw7]; exact (Qac (Qac (Qac (Qac (Qac x6 0 _) 1 _) 2 _) 3 _) 4 _).trans rfl
  have hsame : ∀ b, b ≠ xb → w7.heap[b]? = w6.heap[b]? := fun b hb => by
   rw [hw7, hpS hb, hpS hb, hpS hb, hpS hb, hpS hb]
  have s7 : w6.heap.size = w7.heap.size := by rw [hw7]; simp [World.setCell]
  have q7 : w7.heap[w.heap.size]? = some exZ := (hsame _ (by omega)).trans q6
  have k7 : Kp rb w w7 := by rw [hw7]; exact ((((k6.set2 (by omega)).set2 (by omega)).set2 (by omega)).set2 (by omega)).set2 (by omega)
  have hR7 : Rd rb e w7 l2 i2 (dp + 1) := by rw [hw7]; exact ((((hR6.set2 (by omega)).set2 (by omega)).set2 (by omega)).set2 (by omega)).set2 (by omega)
  have hX7 : ExS (fun b => w.heap.size < b ∧ b ≠ xb) w7 [.int .i64 x.kind, .int .i64 x.num, str x.txt, .slice xa xn xc, .int .i64 x.at_] x := Qae.same _ _ w7 _ _ hX6 (by omega) (fun b hs _ => hsame b hs.2)
  have hl := Qci hR7 (Qa HP).2.2.2.2
  have K7 := hide (Ya k7 (Ya n7 (Ya q7 hX7)))
  have HW7 := hide hw7
  obtain ⟨y0, y1, y2, y3, y4, yf⟩ := ex5 x6
  clear hX hR6 k56 k5 n5 x5 q5 g1 g2 hs56 h5s k6 x6 q6 hX6 hw7 n7 hsame s7 q7 k7 hR7 hX7 K5
  go_wp2_with fail
  rw [← Qa HW7]
  clear HW7 y0 y1 y2 y3 y4 yf
  refine hl.mono ?_
  clear hl
  rintro en w8 ⟨rfl, hR8, k8⟩
  obtain ⟨k7, n7, q7, hX7⟩ := Qa K7
  have g3 := Qa HG
  obtain ⟨z0, z1, z2, z3, z4, zf⟩ := ex5 (k8.keep n7 (by omega))
  have hX8 := Qae.same _ _ w8 _ _ hX7 k8.size (fun b hs hl => k8.block b hl (by omega))
  obtain ⟨y0, y1, y2, y3, y4, yf⟩ := ex5 (k8.keep q7 (by omega))
  have HF := hide (Qbl (x := x) (gb := w.heap.size) hX8 (fun b hb => ⟨by omega, by omega⟩) hR8 (k7.trans k8) (Nat.le_refl _) hrb)
  clear hR8 k8 k7 n7 q7 hX7 hX8 zf K7 g3
  go_wp2_with fail
  refine bodyPost_ret (v := .agg #[.int .i64 x.kind, .int .i64 x.num, str x.txt, .slice xa xn xc, .int .i64 x.at_]) (by simp [results, Tryz.results169, go_sem, y0, y1, y2, y3, y4]) rfl ?_
  rw [Qa HPO]
  exact ⟨_, rfl, Qa HF _ _ _ _ _⟩
end
section
open Go.RowKit Go.Maps
theorem num_ex {e : Nat} : ∀ (d : Nat) (l : List Tok) (it : Nat) (x : Ex) (l2 : List Tok) (i2 : Nat), (ahd e 0 l).kind = 2 → (exD e d).2 l it = .ok x l2 i2 → x.num = (ahd e 0 l).num
 | 0, l, it, x, l2, i2, hk, h => by cases h
 | d + 1, l, it, x, l2, i2, hk, h => by
  have h' : factorB e (exD e d).1 (exD e d).2 l it = .ok x l2 i2 := h
  rw [factorB, if_pos hk] at h'
  cases h'; rfl
theorem Qli {rb e : Nat} : ∀ (d dp : Nat), dp + d = 32 → OpC 144 rb e dp (exD e d).1 ∧ OpC 169 rb e dp (exD e d).2
 | 0, dp, h => by
  obtain rfl : dp = 32 := h
  exact ⟨expr_no, Qox⟩
 | d + 1, dp, h => by
  have ih := Qli (rb := rb) (e := e) d (dp + 1) (by omega)
  exact ⟨Qsg (by omega) (Qtg ih.2 (Qdh d).2) (Qen (Qdh d).2), Qmi (by omega) ih.1 (Qdh d).1 ih.2 (num_ex d)⟩
end
section
open Go.RowKit Go.Maps
theorem cl3 {w : World} {b : Nat} {T : TypeId} {v0 v1 v2 : Value} (h : w.heap[b]? = some (.cells #[v0, v1, v2] T (0, 0))) :
  w.cell? ⟨b, 0, none⟩ = some v0 ∧ w.cell? ⟨b, 1, none⟩ = some v1 ∧ w.cell? ⟨b, 2, none⟩ = some v2 ∧ ∀ o, w.frozen? ⟨b, o, none⟩ = false :=
 ⟨(Qaa h 0).trans rfl, (Qaa h 1).trans rfl, (Qaa h 2).trans rfl, fun o => by simp [World.frozen?, h]⟩
abbrev amZ : Obj := .cells #[.string ⟨#[]⟩, .slice none 0 0, .int .i64 0] 61
def AmS (S : Nat → Prop) (w : World) (cs : List Value) (a : Atm) : Prop := ∃ xa xn xc, cs = [str a.rel, .slice xa xn xc, .int .i64 a.at_] ∧ LsAt PE 5 S w (.slice xa xn xc) a.args
def VAm (S : Nat → Prop) (w : World) (v : Value) (a : Atm) : Prop := ∃ xa xn xc, v = .agg #[str a.rel, .slice xa xn xc, .int .i64 a.at_] ∧ LsAt PE 5 S w (.slice xa xn xc) a.args

theorem Qgy {rb e dp d : Nat} (hd : dp + d = 32) {w : World} {l : List Tok} {it : Nat} (h : Rd rb e w l it dp) :
  Calls Tryz.prog 124 #[.pointer (some ⟨rb, 0, none⟩)] w fun en w' => Ans rb e dp w (fun w2 v x => VAm (fun b => w.heap.size ≤ b) w2 v x) (atomP e d l it) en w' := by
 obtain ⟨w1, hw1⟩ : ∃ w1, w1 = w.alloc amZ := ⟨_, rfl⟩
 have b1 : Below w.heap.size w w1 := by rw [hw1]; exact (Below.refl _ w).alloc (Nat.le_refl _) _
 have q1 : w1.heap[w.heap.size]? = some amZ := by rw [hw1]; exact heap_alloc_new w _
 have s1 : w1.heap.size = w.heap.size + 1 := by rw [hw1]; simp
 have ha := Qak (h.later b1) 0
 unfold tokV at ha
 have hrb := h.lt
 obtain ⟨PO, hPO⟩ : ∃ PO : Ending → World → Prop, PO = fun en w' => Ans rb e dp w (fun w2 v x => VAm (fun b => w.heap.size ≤ b) w2 v x) (atomP e d l it) en w' := ⟨_, rfl⟩
 rw [← hPO]
 have HW1 : Hid (w1 = w.alloc (.cells #[.string ⟨#[]⟩, .slice none 0 0, .int .i64 0] 61)) := hw1
 have HH := hide (Ya h (Ya b1 (Ya q1 s1)))
 have HPO := hide hPO
 have HP := hide (Ya (Qli (rb := rb) (e := e) d dp hd).1 (Qdh (e := e) d).1)
 obtain ⟨t, ht⟩ : ∃ t, t = ahd e 0 l := ⟨_, rfl⟩
 rw [← ht] at ha
 have hsg : Hid (atomP e d l it = (nmQ e l it).bind fun n l2 i => (encl e [40] [41] (exD e d).1 l2 i).map fun ks => ⟨n, ks, t.at_⟩) := by rw [ht]; rfl
 generalize atomP e d l it = sr at HPO hsg
 clear h b1 q1 s1 hw1 hPO ht hd
 go_enter Tryz.func124, Tryz.ntmps124
 go_wp2_with fail
 rw [← Qa HW1]
 refine ha.mono ?_
 clear ha
 rintro en w2 ⟨rfl, b2⟩
 obtain ⟨h, b1, q1, s1⟩ := Qa HH
 have hs2 := b2.size
 obtain ⟨w3, hw3⟩ : ∃ w3, w3 = w2.alloc (.cells #[.string ⟨#[]⟩, .slice none 0 0, .int .i64 (t.at_ : Int)] 61) := ⟨_, rfl⟩
 have b3 : Below w.heap.size w w3 := by rw [hw3]; exact (b1.trans (b2.mono (by omega))).alloc (by omega) _
 have n3 : w3.heap[w2.heap.size]? = some (.cells #[.string ⟨#[]⟩, .slice none 0 0, .int .i64 (t.at_ : Int)] 61 (0, 0)) := by rw [hw3]; exact heap_alloc_new w2 _
 have q3 : w3.heap[w.heap.size]? = some amZ := by rw [hw3, Below.heap_alloc _ _ _ (by omega)]; exact (b2.block _ (by omega)).trans q1
 have s3 : w3.heap.size = w2.heap.size + 1 := by rw [hw3]; simp
 have hc := Qdy (h.later b3)
 have HW3 := hide hw3
 have K3 := hide (Ya (Kp.of_below (rb := rb) b3) (Ya n3 (Ya q3 (Ya (by omega : w.heap.size + 1 ≤ w2.heap.size) s3))))
 generalize hxb : w2.heap.size = xb at K3
 clear h b1 q1 s1 hs2 b2 b3 n3 q3 s3 hw3 HH
 go_wp2_with fail
 rename_i hK
 refine hK _ _ ?_
 clear hK
 cases hq : nmQ e l it with
 | bad why at1 l2 =>
  rw [hq] at hc hsg
  rw [Qa hsg] at HPO
  clear hq hsg
  go_wp2_with fail
  rw [← Qa HW3]
  refine hc.mono ?_
  clear hc
  rintro en w4 ⟨rfl, k4⟩
  have H4 := hide ((Qa K3).1.trans k4)
  clear k4
  go_wp2_with fail
  refine ⟨rfl, ?_⟩
  rw [Qa HPO]
  exact ⟨rfl, Qa H4⟩
 | ok s l2 i2 =>
  rw [hq] at hc hsg
  clear hq
  go_wp2_with fail
  rw [← Qa HW3]
  clear HW3 hxb
  refine hc.mono ?_
  clear hc
  rintro en w4 ⟨_, rfl, rfl, hR4, k4⟩
  obtain ⟨k3, n3, q3, g1, s3⟩ := Qa K3
  have hs4 := k4.size
  have n4 := k4.keep n3 (by omega)
  have q4 := k4.keep q3 (by omega)
  have hne : w.heap.size ≠ xb := by omega
  obtain ⟨c0, c1, c2, cf⟩ := cl3 n4
  obtain ⟨w5, hw5⟩ : ∃ w5, w5 = w4.setCell ⟨xb, 0, none⟩ (str s) := ⟨_, rfl⟩
  have n5 : w5.heap[xb]? = some (.cells #[str s, .slice none 0 0, .int .i64 (t.at_ : Int)] 61 (0, 0)) := by rw [hw5]; exact (Qac n4 0 _).trans rfl
  have q5 : w5.heap[w.heap.size]? = some amZ := by rw [hw5, hpS hne]; exact q4
  have k5 : Kp rb w w5 := by rw [hw5]; exact (k3.trans k4).set2 (by omega)
  have hR5 : Rd rb e w5 l2 i2 dp := by rw [hw5]; exact hR4.set2 (by omega)
  have s5 : w4.heap.size = w5.heap.size := by rw [hw5]; simp [World.setCell]
  have hen := Qij PE Qae (Qlt (Qa HP).1) (Qa HP).2 hR5 [40] [41] (by decide) (by decide)
  have HW5 := hide hw5
  have K5 := hide (Ya k5 (Ya n5 (Ya q5 (Ya g1 (by omega : xb < w5.heap.size)))))
  clear k3 n3 q3 g1 s3 hs4 n4 q4 c1 c2 hw5 n5 q5 k5 hR5 s5 K3 hR4 k4
  cases hq : encl e [40] [41] (exD e d).1 l2 i2 with
  | bad why at1 l4 =>
   have HPO2 : Hid (PO = fun en w' => Ans rb e dp w (fun w2 v x => VAm (fun b => w.heap.size ≤ b) w2 v x) (.bad why at1 l4) en w') := by
    have := Qa HPO
    rw [Qa hsg, Rs.bind, hq] at this
    exact this
   rw [hq] at hen
   clear hq HPO hsg
   go_wp2_with fail
   rw [← Qa HW5]
   refine hen.mono ?_
   clear hen
   rintro en w7 ⟨rfl, k7⟩
   have H7 := hide ((Qa K5).1.trans k7)
   clear k7
   go_wp2_with fail
   refine ⟨rfl, ?_⟩
   rw [Qa HPO2]
   exact ⟨rfl, Qa H7⟩
  | ok ks l4 i4 =>
   have HPO2 : Hid (PO = fun en w' => Ans rb e dp w (fun w2 v x => VAm (fun b => w.heap.size ≤ b) w2 v x) (.ok ⟨s, ks, t.at_⟩ l4 i4) en w') := by
    have := Qa HPO
    rw [Qa hsg, Rs.bind, hq] at this
    exact this
   rw [hq] at hen
   clear hq HPO hsg
   go_wp2_with fail
   rw [← Qa HW5]
   clear HW5
   refine hen.mono ?_
   clear hen
   rintro en w7 ⟨_, rfl, hL, hR7, k7⟩
   obtain ⟨ka, kc, _, ev, _⟩ := id hL
   subst ev
   obtain ⟨k5, n5, q5, g1, g2⟩ := Qa K5
   have n7 := k7.keep n5 (by omega)
   have q7 := k7.keep q5 (by omega)
   obtain ⟨w8, hw8⟩ : ∃ w8, w8 = w7.setCell ⟨xb, 1, none⟩ (.slice ka ks.length kc) := ⟨_, rfl⟩
   have n8 : w8.heap[xb]? = some (.cells #[str s, .slice ka ks.length kc, .int .i64 (t.at_ : Int)] 61 (0, 0)) := by rw [hw8]; exact (Qac n7 1 _).trans rfl
   have q8 : w8.heap[w.heap.size]? = some amZ := by rw [hw8, hpS hne]; exact q7
   have k8 : Kp rb w w8 := by rw [hw8]; exact (k5.trans k7).set2 (by omega)
   have hR8 : Rd rb e w8 l4 i4 dp := by rw [hw8]; exact hR7.set2 (by omega)
   have hL8 : LsAt PE 5 (fun b => w5.heap.size ≤ b) w8 (.slice ka ks.length kc) ks := by
    refine hL.same Qae (by rw [hw8]; simp [World.setCell]) (fun b hb hl => ?_)
    have hb' : w5.heap.size ≤ b := hb
    have hn : b ≠ xb := by omega
    rw [hw8, hpS hn]
   obtain ⟨x0, x1, x2, xf⟩ := cl3 n7
   obtain ⟨z0, z1, z2, zf⟩ := cl3 n8
   obtain ⟨y0, y1, y2, yf⟩ := cl3 q8
   have HF : Hid (∀ q0 q1 q2, VAm (fun b => w.heap.size ≤ b) (((w8.setCell ⟨w.heap.size, 0, none⟩ q0).setCell ⟨w.heap.size, 1, none⟩ q1).setCell ⟨w.heap.size, 2, none⟩ q2) (.agg #[str s, .slice ka ks.length kc, .int .i64 (t.at_ : Int)]) ⟨s, ks, t.at_⟩ ∧ Rd rb e (((w8.setCell ⟨w.heap.size, 0, none⟩ q0).setCell ⟨w.heap.size, 1, none⟩ q1).setCell ⟨w.heap.size, 2, none⟩ q2) l4 i4 dp ∧ Kp rb w (((w8.setCell ⟨w.heap.size, 0, none⟩ q0).setCell ⟨w.heap.size, 1, none⟩ q1).setCell ⟨w.heap.size, 2, none⟩ q2)) := fun q0 q1 q2 => by
    have hsame : ∀ b, b ≠ w.heap.size → (((w8.setCell ⟨w.heap.size, 0, none⟩ q0).setCell ⟨w.heap.size, 1, none⟩ q1).setCell ⟨w.heap.size, 2, none⟩ q2).heap[b]? = w8.heap[b]? := fun b hb => by
     rw [hpS hb, hpS hb, hpS hb]
    exact ⟨⟨_, _, _, rfl, (hL8.same Qae (by simp [World.setCell]) (fun b hb hl => hsame b (by have hb' : w5.heap.size ≤ b := hb; omega))).mono Qae (fun b _ hb => by have hb' : w5.heap.size ≤ b := hb; omega)⟩, ((hR8.set2 (by omega)).set2 (by omega)).set2 (by omega), ((k8.set2 (by omega)).set2 (by omega)).set2 (by omega)⟩
   clear hR7 k7 k5 n5 q5 g1 g2 n7 q7 n8 q8 k8 hR8 hL8 hL x0 x2 zf hne
   subst hw8
   go_wp2_with fail
   refine bodyPost_ret (v := .agg #[str s, .slice ka ks.length kc, .int .i64 t.at_]) (by simp [results, Tryz.results124, go_sem, y0, y1, y2]) rfl ?_
   rw [Qa HPO2]
   exact ⟨_, rfl, Qa HF _ _ _⟩
end
section
open Go.RowKit Go.Maps
theorem infoF : ∃ i0 : TypeInfo, Tryz.prog.info? 138 = some i0 ∧ i0.zero = some (.agg #[.string ⟨#[]⟩, .string ⟨#[]⟩]) ∧ i0.size = 2 ∧ i0.bytes = 32 := by
 have h : (Tryz.prog.info? 138).map (fun i => (i.zero, i.size, i.bytes)) = some (some (.agg #[.string ⟨#[]⟩, .string ⟨#[]⟩]), 2, 32) := by kernel_rfl
 obtain ⟨i0, hi, hi3⟩ := Option.map_eq_some_iff.1 h
 simp only [Prod.mk.injEq] at hi3
 exact ⟨i0, hi, hi3⟩
def PartF (p : PS Fld) (rb e dp : Nat) (part : Pr Fld) : Prop := ∀ (w : World) (l : List Tok) (it : Nat), Rd rb e w l it dp → Calls Tryz.prog 117 #[.pointer (some ⟨rb, 0, none⟩)] w fun en w' => Ans rb e dp w (fun w2 v x => ∃ c0 c1, v = .agg #[c0, c1] ∧ (∀ c ∈ ([c0, c1] : List Value), c.oneCell' = true) ∧ p (fun b => w.heap.size ≤ b) w2 [c0, c1] x) (part l it) en w'

theorem Qps (p : PS Fld) (hp : PSok p) {rb e dp : Nat} {part : Pr Fld} (hpart : PartF p rb e dp part) (hshr : Shr part) {w : World} {l : List Tok} {it : Nat} (h : Rd rb e w l it dp) (sep : Txt) (hsep : sep ≠ []) (most : Nat) :
  Calls Tryz.prog 142 #[.pointer (some ⟨rb, 0, none⟩), str sep, .int .i64 (most : Int), .func (.func 117) #[.pointer (some ⟨rb, 0, none⟩)] #[]] w fun en w' => Ans rb e dp w (fun w2 v xs => LsAt p 2 (fun b => w.heap.size ≤ b) w2 v xs) (listP e sep most part l it) en w' := by
 obtain ⟨r0, hr0⟩ : ∃ r0, r0 = listP e sep most part l it := ⟨_, rfl⟩
 have hst : LI p 2 138 rb e dp sep most part r0 w (.slice none 0 0) w [] l it (l.length + 1) := ⟨Kp.refl rb w, h, ⟨[], World.ownsRow_nil _ _ _ _, ⟨rfl, fun j x cs hx => by simp at hx⟩⟩, hr0, Nat.le_refl _, by have := h.len; simpa using this⟩
 rw [← hr0]
 obtain ⟨PO, hPO⟩ : ∃ PO : Ending → World → Prop, PO = fun en w' => Ans rb e dp w (fun w2 v xs => LsAt p 2 (fun b => w.heap.size ≤ b) w2 v xs) r0 en w' := ⟨_, rfl⟩
 rw [← hPO]
 have HPO := hide hPO
 have HST := hide hst
 have HP := hide (Ya hpart (Ya hshr hp))
 have hrb := h.lt
 clear hst hr0 hPO hpart hshr h hp
 obtain ⟨i0, hi, hz, hsz, hby⟩ := infoF
 have HIN := hide (Ya hi (Ya hz (Ya hsz hby)))
 have ht : Tryz.prog.underlying 97 = some (.slice 138) := by kernel_rfl
 have HTY := hide ht
 clear hi hz hsz hby ht
 go_enter Tryz.func142, Tryz.ntmps142
 go_wp2_with fail
 go_loopw [9] (fun sl wr => ∃ acc l' it' f sa sc, sl = .slice sa (List.length acc) sc ∧ LI p 2 138 rb e dp sep most part r0 w sl wr acc l' it' f) (fun _ wr => left rb wr)
 case atStart => exact ⟨[], l, it, _, none, 0, rfl, Qa HST⟩
 obtain ⟨acc, l', it', f, sa, sc, rfl, hL⟩ := hrel
 clear HST
 obtain ⟨f', rfl⟩ : ∃ f', f = f' + 1 := ⟨f - 1, by have := hL.fuel; omega⟩
 by_cases hm : acc.length = most
 ·
  have hr := Qaw hL.rd 3
  have hE : r0 = .bad 3 (ahd e 0 l').at_ l' := by
   rw [hL.eq]
   unfold listL
   rw [if_pos hm]; rfl
  have HE := hide (Ya hE hL.kp)
  have hm2 : ((acc.length : Int) == (most : Int)) = true := by rw [hm]; simp
  clear hL hE hm
  generalize (ahd e 0 l').at_ = at0 at hr HE
  go_wp2_with fail
  refine hr.mono ?_
  clear hr
  rintro en w3 ⟨rfl, b3⟩
  have H3 := hide ((Qa HE).2.trans (Kp.of_below b3))
  clear b3
  go_wp2_with fail
  refine ⟨rfl, ?_⟩
  rw [Qa HPO, (Qa HE).1]
  exact ⟨rfl, Qa H3⟩
 have hm2 : ((acc.length : Int) == (most : Int)) = false := by simp; omega
 obtain ⟨hpart, hshr, hp⟩ := Qa HP
 have hc := hpart wr l' it' hL.rd
 have hE : r0 = (part l' it').bind fun x l i => if sgn e l = sep then listL e sep most part f' (acc ++ [x]) (l.drop 1) i else .ok (acc ++ [x]) l i := by
  rw [hL.eq]
  conv => lhs; unfold listL
  rw [if_neg hm]
 cases hq : part l' it' with
 | bad why at0 l2 =>
  rw [hq] at hc hE
  have HE := hide (Ya hE hL.kp)
  clear hL hE hm hpart hshr hp hq
  go_wp2_with fail
  refine hc.mono ?_
  clear hc
  rintro en w3 ⟨rfl, k3⟩
  have H3 := hide ((Qa HE).2.trans k3)
  clear k3
  go_wp2_with fail
  refine ⟨rfl, ?_⟩
  rw [Qa HPO, (Qa HE).1]
  exact ⟨rfl, Qa H3⟩
 | ok x l2 i2 =>
  have hle := hshr _ _ _ _ _ hq
  rw [hq] at hc hE
  have HE := hide (Ya hL hE)
  clear hL hE hm hpart hshr hp hq
  go_wp2_with fail
  refine hc.mono ?_
  clear hc
  rintro en w2 ⟨_, rfl, ⟨c0, c1, rfl, h1, hx⟩, hR2, k2⟩
  obtain ⟨hL, hE⟩ := Qa HE
  obtain ⟨hi, hz, hsz, hby⟩ := Qa HIN
  obtain ⟨r, w8, hrun, kp8, rd8, ⟨ra, rc, er⟩, hown8⟩ := hL.more (Qa HP).2.2 (Qa HTY) hi hz hsz hby rfl (by decide) (by decide) (cs := [c0, c1]) rfl h1 hx hR2 k2 hrb
  subst er
  have HRUN := hide hrun
  have hsk := Qbc rd8 sep hsep
  have hfu := hL.fuel
  have hfw := hL.few
  have hlf := Qba hL.rd
  have H8 := hide (Ya kp8 (Ya hown8 hE))
  clear hL hE hi hz hsz hby h1 hx hR2 k2 hrun kp8 rd8 hown8 HE
  go_wp2_with (at_builtin; refine Qax _ rfl _ _ 97 rfl _ _ rfl rfl _ _ (Qa HRUN) ?_; clear HRUN)
  refine hsk.mono ?_
  clear hsk
  rintro en w9 ⟨rfl, hR9, k9⟩
  obtain ⟨kp8, ⟨css, ho8, ha8⟩, hE⟩ := Qa H8
  have own9 : w9.ownsRow w.heap.size 138 2 (.slice ra (acc.length + 1) rc) (acc ++ [x]).length css.flatten := by
   refine ⟨ho8.1, ?_⟩
   rcases ho8.2 with q | ⟨g, cap, cur, e1, e2, e3, e4⟩
   · exact .inl q
   · exact .inr ⟨g, cap, cur, e1, e2, k9.keep e3 (by omega), e4⟩
  have all9 := ha8.same (Qa HP).2.2 k9.size (fun b hs hb => k9.block b hb (by omega))
  have kp9 := kp8.trans k9
  clear kp8 ho8 ha8 k9 H8
  by_cases hS : sgn e l2 = sep
  ·
   rw [if_pos hS] at hR9
   have hS2 : decide (sgn e l2 = sep) = true := decide_eq_true hS
   obtain ⟨t2, l3, e2, hq2⟩ := Qbp hS hsep
   clear hq2
   subst e2
   have hN : LI p 2 138 rb e dp sep most part r0 w (.slice ra (acc.length + 1) rc) w9 (acc ++ [x]) l3 i2 f' := ⟨kp9, hR9, ⟨css, own9, all9⟩, by rw [hE]; show (if sgn e (t2 :: l3) = sep then _ else _) = _; rw [if_pos hS]; rfl, by simp at hle; omega, by simp at hle ⊢; omega⟩
   have hl9 := Qba hR9
   have HN := hide hN
   rw [hS2]
   have HL9 := hide (Ya hl9 (Ya hlf hle))
   clear hN hR9 own9 all9 kp9 hE hS hS2 hl9 hlf hle
   go_wp2_with fail
   go_roundw
   case rel => exact ⟨_, _, _, _, ra, rc, by simp, Qa HN⟩
   obtain ⟨q1, q2, q3⟩ := Qa HL9
   rw [q1, q2]
   simp at q3 ⊢
   omega
  rw [if_neg hS] at hR9
  have hS2 : decide (sgn e l2 = sep) = false := decide_eq_false hS
  have hF : r0 = .ok (acc ++ [x]) l2 i2 := by rw [hE]; show (if sgn e l2 = sep then _ else _) = _; rw [if_neg hS]
  have HF : Hid (r0 = .ok (acc ++ [x]) l2 i2 ∧ LsAt p 2 (fun b => w.heap.size ≤ b) w9 (.slice ra (acc.length + 1) rc) (acc ++ [x]) ∧ Rd rb e w9 l2 i2 dp ∧ Kp rb w w9) := ⟨hF, LsAt.of own9 (all9.mono (Qa HP).2.2 (fun b _ hs => hs.1)), hR9, kp9⟩
  rw [hS2]
  clear hF hR9 own9 all9 kp9 hE hS hS2 hlf hle
  go_wp2_with fail
  rw [Qa HPO, (Qa HF).1]
  exact ⟨_, rfl, (Qa HF).2⟩
end
end Go.Proofs.YtccehgfecaamoaaGreatDoor
