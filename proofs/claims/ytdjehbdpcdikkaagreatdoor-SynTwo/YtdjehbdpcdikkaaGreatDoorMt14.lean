/- syn: factor. syn: expressions of any depth. syn: atom. -/
import Derived.Test.YtdjehbdpcdikkaaGreatDoorMt13
namespace Go.Proofs.YtdjehbdpcdikkaaGreatDoor
open Go.RowKit Go.Maps

set_option maxRecDepth 100000 in
set_option maxHeartbeats 4000000 in
theorem factor_no {rb e : Nat} : OpC 211 rb e 32 (refuse e 4) := by
 intro w l it h
 obtain ⟨w1, hw1⟩ : ∃ w1, w1 = w.alloc exZ := ⟨_, rfl⟩
 have b1 : Below w.heap.size w w1 := by rw [hw1]; exact (Below.refl _ w).alloc (Nat.le_refl _) _
 have hc := enter_no (h.later b1)
 have HW1 : Hid (w1 = w.alloc (.cells #[.int .i64 0, .int .i64 0, .string ⟨#[]⟩, .slice none 0 0, .int .i64 0] 90)) := hw1
 obtain ⟨PO, hPO⟩ : ∃ PO : Ending → World → Prop, PO = fun en w' => Ans rb e 32 w (fun w2 v x => VE (fun b => w.heap.size ≤ b) w2 v x) (refuse e 4 l it) en w' := ⟨_, rfl⟩
 rw [← hPO]
 have HPO := hide hPO
 have B1 := hide b1
 clear hw1 h b1 hPO
 go_enter Tryz.func211, Tryz.ntmps211
 go_wp2_with fail
 rw [← unhide HW1]
 refine hc.mono ?_
 clear hc
 rintro en w3 ⟨rfl, b3⟩
 have H3 := hide (Kp.of_below (rb := rb) ((unhide B1).trans (b3.mono (unhide B1).size)))
 clear b3
 go_wp2_with fail
 refine ⟨rfl, ?_⟩
 rw [unhide HPO]
 exact ⟨rfl, unhide H3⟩

set_option maxRecDepth 100000 in
set_option maxHeartbeats 8000000 in
theorem factor_any {rb e dp : Nat} {E F : Pr Ex} (hd : dp < 32) (hE : OpC 185 rb e (dp + 1) E) (hsE : Shr E) (hF : OpC 211 rb e (dp + 1) F) (hnum : ∀ l it x l2 i2, (ahd e 0 l).kind = 2 → F l it = .ok x l2 i2 → x.num = (ahd e 0 l).num) : OpC 211 rb e dp (factorB e E F) := by
 have mixed : Tryz.prog.follows .mixedOrders = true := by kernel_rfl
 intro w l it h
 obtain ⟨w1, hw1⟩ : ∃ w1, w1 = w.alloc exZ := ⟨_, rfl⟩
 have b1 : Below w.heap.size w w1 := by rw [hw1]; exact (Below.refl _ w).alloc (Nat.le_refl _) _
 have q1 : w1.heap[w.heap.size]? = some exZ := by rw [hw1]; exact heap_alloc_new w _
 have s1 : w1.heap.size = w.heap.size + 1 := by rw [hw1]; simp
 have he := enter_any (h.later b1) hd
 have hrb := h.lt
 obtain ⟨PO, hPO⟩ : ∃ PO : Ending → World → Prop, PO = fun en w' => Ans rb e dp w (fun w2 v x => VE (fun b => w.heap.size ≤ b) w2 v x) (factorB e E F l it) en w' := ⟨_, rfl⟩
 rw [← hPO]
 have HW1 : Hid (w1 = w.alloc (.cells #[.int .i64 0, .int .i64 0, .string ⟨#[]⟩, .slice none 0 0, .int .i64 0] 90)) := hw1
 have HPO := hide hPO
 have HP := hide (And.intro hE (And.intro hsE (And.intro hF (And.intro hnum hd))))
 have K1 := hide (And.intro b1 (And.intro q1 s1))
 clear hE hsE hF hnum h b1 q1 s1 hw1 hPO hd
 go_enter Tryz.func211, Tryz.ntmps211
 go_wp2_with fail
 rw [← unhide HW1]
 refine he.mono ?_
 clear he
 rintro en w2 ⟨rfl, hR2, k2⟩
 obtain ⟨b1, q1, s1⟩ := unhide K1
 have hs2 := k2.size
 obtain ⟨w3, hw3⟩ : ∃ w3, w3 = w2.alloc exZ := ⟨_, rfl⟩
 have b3 : Below w2.heap.size w2 w3 := by rw [hw3]; exact (Below.refl _ w2).alloc (Nat.le_refl _) _
 have x3 : w3.heap[w2.heap.size]? = some exZ := by rw [hw3]; exact heap_alloc_new w2 _
 have k3 : Kp rb w w3 := ((Kp.of_below b1).trans k2).trans (Kp.of_below b3)
 have q3 : w3.heap[w.heap.size]? = some exZ := (b3.block _ (by omega)).trans (k2.keep q1 (by omega))
 have s3 : w3.heap.size = w2.heap.size + 1 := by rw [hw3]; simp
 have hR3 := hR2.later b3
 have ha := ahead_any hR3 0
 unfold tokV at ha
 have HW3 : Hid (w3 = w2.alloc (.cells #[.int .i64 0, .int .i64 0, .string ⟨#[]⟩, .slice none 0 0, .int .i64 0] 90)) := hw3
 have K3 := hide (And.intro k3 (And.intro x3 (And.intro q3 (And.intro hR3 (And.intro s3 (by omega : w.heap.size + 1 ≤ w2.heap.size))))))
 obtain ⟨t, ht⟩ : ∃ t, t = ahd e 0 l := ⟨_, rfl⟩
 rw [← ht] at ha
 generalize hxb : w2.heap.size = xb at K3
 clear b1 q1 s1 hs2 hw3 b3 x3 k3 q3 s3 K1 hR2 k2 hR3
 go_wp2_with fail
 rw [← unhide HW3]
 clear HW3 hxb
 refine ha.mono ?_
 clear ha
 rintro en w4 ⟨rfl, b4⟩
 obtain ⟨k3, x3, q3, hR3, s3, g1⟩ := unhide K3
 have hs4 := b4.size
 obtain ⟨w5, hw5⟩ : ∃ w5, w5 = w4.alloc (.cells #[.int .i64 t.kind, str t.text, .int .i64 t.num, .int .i64 (t.at_ : Int)] 43) := ⟨_, rfl⟩
 have b5 : Below w3.heap.size w3 w5 := by rw [hw5]; exact b4.alloc b4.size _
 have n5 : w5.heap[w4.heap.size]? = some (.cells #[.int .i64 t.kind, str t.text, .int .i64 t.num, .int .i64 (t.at_ : Int)] 43 (0, 0)) := by rw [hw5]; exact heap_alloc_new w4 _
 have x5 : w5.heap[xb]? = some exZ := (b5.block _ (by omega)).trans x3
 have q5 : w5.heap[w.heap.size]? = some exZ := (b5.block _ (by omega)).trans q3
 have k5 := k3.trans (Kp.of_below b5)
 have hR5 := hR3.later b5
 have HG : Hid (w.heap.size + 1 ≤ xb) := g1
 have K5 := hide (And.intro k5 (And.intro n5 (And.intro x5 (And.intro q5 (And.intro g1 (by omega : xb + 1 ≤ w4.heap.size))))))
 have HW5 := hide hw5
 obtain ⟨tc0, tc1, tc2, tc3⟩ := tk4 n5
 generalize htb : w4.heap.size = tb at tc0 tc1 tc2 tc3 K5
 clear k3 x3 q3 hR3 s3 g1 hs4 hw5 b5 n5 x5 q5 k5 K3 b4
 by_cases c2 : t.kind = 2
 ·
  have g2 : (t.kind == 2) = true := by simpa using c2
  obtain ⟨t', l2, rfl, hk⟩ := ahd_kind (ht ▸ c2) (by decide)
  clear hk
  have e0 : t = t' := ht
  subst e0
  obtain ⟨i2, hi2⟩ : ∃ i2, i2 = it := ⟨_, rfl⟩
  have HPO2 : Hid (PO = fun en w' => Ans rb e dp w (fun w2 v x => VE (fun b => w.heap.size ≤ b) w2 v x) (.ok (.mk 2 t.num [] [] t.at_) l2 i2) en w') := by
   have := unhide HPO
   rw [factorB, if_pos (ht ▸ c2)] at this
   rw [hi2]; exact this
  have htk : Calls Tryz.prog 150 #[.pointer (some ⟨rb, 0, none⟩)] w5.drew fun en w' => en = .returned (.agg #[.int .i64 t.kind, str t.text, .int .i64 t.num, .int .i64 (t.at_ : Int)]) ∧ Rd rb e w' l2 i2 (dp + 1) ∧ Kp rb w5.drew w' := by rw [hi2]; exact take_any (hR5.later ((Below.refl _ w5).drew))
  clear HPO ht c2 hR5 hi2
  have HPO := HPO2
  clear HPO2
  go_wp2_with fail
  rw [← unhide HW5]
  clear HW5 htb
  go_wp2_with fail
  refine region_mixP (m := 6) (ml := [(0, 1), (3, 1), (4, 1), (1, 0), (2, 0), (5, 0), (6, 0)]) (fun _ w' => w'.heap[tb]? = some (.cells #[.int .i64 t.kind, str t.text, .int .i64 t.num, .int .i64 (t.at_ : Int)] 43 (0, 0))) mixed (by kernel_rfl) rfl (by rfl) (by kernel_rfl) (fun c a d v w h => by cases d <;> exact h) (fun PP PQ hPP hPQ => ?_)
  refine wpMixF_take (v := ?_) rfl (by kernel_rfl) (fun f w' hw => ?_) ?_
  rotate_left
  · (go_simp; try with_reducible rfl)
  refine wpMixF_take (v := ?_) rfl (by kernel_rfl) (fun f w' hw => ?_) ?_
  rotate_left
  · (go_simp; try with_reducible rfl)
  refine wpMixF_take (v := ?_) rfl (by kernel_rfl) (fun f w' hw => ?_) ?_
  rotate_left
  · (obtain ⟨u0, u1, u2, u3⟩ := tk4 hw; go_simp; try with_reducible rfl)
  refine wpMixF_force rfl (unhide K5).2.1 (fun K hK => ?_)
  go_simp
  refine htk.mono ?_
  clear htk
  rintro en w6 ⟨rfl, hR6, k56'⟩
  obtain ⟨k5, n5, x5, q5, g1, g2⟩ := unhide K5
  have k56 : Kp rb w5 w6 := (Kp.of_below ((Below.refl _ w5).drew)).trans k56'
  have hs56 := k56.size
  have h5s := lt_hp n5
  have k6 := k5.trans k56
  have x6 := k56.keep x5 (by omega)
  have q6 := k56.keep q5 (by omega)
  have n6 := k56.keep n5 (by omega)
  have hX6 : ExS (fun b => w.heap.size < b ∧ b ≠ xb) w6 [.int .i64 2, .int .i64 t.num, .string ⟨#[]⟩, .slice none 0 0, .int .i64 (t.at_ : Int)] (.mk 2 t.num [] [] (t.at_ : Int)) := exS_leaf _ w6 _ _ _ _
  obtain ⟨w7, hw7⟩ : ∃ w7, w7 = ((((w6.setCell ⟨xb, 0, none⟩ (.int .i64 2)).setCell ⟨xb, 1, none⟩ (.int .i64 t.num)).setCell ⟨xb, 2, none⟩ (.string ⟨#[]⟩)).setCell ⟨xb, 3, none⟩ (.slice none 0 0)).setCell ⟨xb, 4, none⟩ (.int .i64 (t.at_ : Int)) := ⟨_, rfl⟩
  have n7 : w7.heap[xb]? = some (.cells #[.int .i64 2, .int .i64 t.num, .string ⟨#[]⟩, .slice none 0 0, .int .i64 (t.at_ : Int)] 90 (0, 0)) := by rw [hw7]; exact (set_hp (set_hp (set_hp (set_hp (set_hp x6 0 _) 1 _) 2 _) 3 _) 4 _).trans rfl
  have hsame : ∀ b, b ≠ xb → w7.heap[b]? = w6.heap[b]? := fun b hb => by
   rw [hw7, Below.heap_setCell _ _ _ _ hb, Below.heap_setCell _ _ _ _ hb, Below.heap_setCell _ _ _ _ hb, Below.heap_setCell _ _ _ _ hb, Below.heap_setCell _ _ _ _ hb]
  have s7 : w6.heap.size = w7.heap.size := by rw [hw7]; simp [World.setCell]
  have q7 : w7.heap[w.heap.size]? = some exZ := (hsame _ (by omega)).trans q6
  have k7 : Kp rb w w7 := by rw [hw7]; exact ((((k6.set2 (by omega)).set2 (by omega)).set2 (by omega)).set2 (by omega)).set2 (by omega)
  have hR7 : Rd rb e w7 l2 i2 (dp + 1) := by rw [hw7]; exact ((((hR6.set2 (by omega)).set2 (by omega)).set2 (by omega)).set2 (by omega)).set2 (by omega)
  have hX7 : ExS (fun b => w.heap.size < b ∧ b ≠ xb) w7 [.int .i64 2, .int .i64 t.num, .string ⟨#[]⟩, .slice none 0 0, .int .i64 (t.at_ : Int)] (.mk 2 t.num [] [] (t.at_ : Int)) := exS_ok.same _ _ w7 _ _ hX6 (by omega) (fun b hs _ => hsame b hs.2)
  have hl := leave_any hR7 (unhide HP).2.2.2.2
  have K7 := hide (And.intro k7 (And.intro n7 (And.intro q7 hX7)))
  have HW7 := hide hw7
  obtain ⟨y0, y1, y2, y3, y4, yf⟩ := ex5 x6
  have N6 := hide n6
  have N7 := hide ((hsame tb (by omega)).trans n6)
  clear hR6 k56 k56' k5 n5 x5 q5 g1 g2 hs56 h5s k6 x6 q6 n6 hX6 n7 hsame s7 q7 k7 hR7 hX7 K5 tc0 tc1 tc2 tc3
  subst hw7
  clear HW7
  go_wp2_with fail
  refine wpMixF_force rfl (unhide N6) (fun K hK => ?_)
  go_simp
  refine hK _ _ ?_
  clear hK K
  refine wpMixF_force rfl (unhide N6) (fun K hK => ?_)
  go_simp
  refine hK _ _ ?_
  clear hK K
  refine wpMixF_force rfl (unhide N6) (fun K hK => ?_)
  go_simp
  refine hK _ _ ?_
  clear hK K
  refine wpMixF_nil (unhide N7) (hPP _ _ ?_)
  clear hPP hPQ
  go_wp2_with fail
  clear y0 y1 y2 y3 y4 yf
  refine hl.mono ?_
  clear hl
  rintro en w8 ⟨rfl, hR8, k8⟩
  obtain ⟨k7, n7, q7, hX7⟩ := unhide K7
  have g3 := unhide HG
  obtain ⟨z0, z1, z2, z3, z4, zf⟩ := ex5 (k8.keep n7 (by omega))
  have hX8 := exS_ok.same _ _ w8 _ _ hX7 k8.size (fun b hs hl => k8.block b hl (by omega))
  obtain ⟨y0, y1, y2, y3, y4, yf⟩ := ex5 (k8.keep q7 (by omega))
  have HF := hide (ve_store (x := (.mk 2 t.num [] [] (t.at_ : Int))) (gb := w.heap.size) hX8 (fun b hb => ⟨by omega, by omega⟩) hR8 (k7.trans k8) (Nat.le_refl _) hrb)
  clear hR8 k8 k7 n7 q7 hX7 hX8 zf K7 g3
  go_wp2_with fail
  refine bodyPost_ret (v := .agg #[.int .i64 2, .int .i64 t.num, .string ⟨#[]⟩, .slice none 0 0, .int .i64 (t.at_ : Int)]) (by simp [results, Tryz.results211, go_sem, y0, y1, y2, y3, y4]) rfl ?_
  rw [unhide HPO]
  exact ⟨_, rfl, unhide HF _ _ _ _ _⟩
 ·
  have g2 : (t.kind == 2) = false := by simpa using c2
  by_cases c3 : t.kind = 3
  ·
   have g3 : (t.kind == 3) = true := by simpa using c3
   obtain ⟨t', l2, rfl, hk⟩ := ahd_kind (ht ▸ c3) (by decide)
   clear hk
   have e0 : t = t' := ht
   subst e0
   obtain ⟨i2, hi2⟩ : ∃ i2, i2 = it := ⟨_, rfl⟩
   have HPO2 : Hid (PO = fun en w' => Ans rb e dp w (fun w2 v x => VE (fun b => w.heap.size ≤ b) w2 v x) (.ok (.mk 3 0 t.text [] t.at_) l2 i2) en w') := by
    have := unhide HPO
    rw [factorB, if_neg (ht ▸ c2), if_pos (ht ▸ c3)] at this
    rw [hi2]; exact this
   have htk : Calls Tryz.prog 150 #[.pointer (some ⟨rb, 0, none⟩)] w5.drew fun en w' => en = .returned (.agg #[.int .i64 t.kind, str t.text, .int .i64 t.num, .int .i64 (t.at_ : Int)]) ∧ Rd rb e w' l2 i2 (dp + 1) ∧ Kp rb w5.drew w' := by rw [hi2]; exact take_any (hR5.later ((Below.refl _ w5).drew))
   clear HPO ht c2 c3 hR5 hi2
   have HPO := HPO2
   clear HPO2
   go_wp2_with fail
   rw [← unhide HW5]
   clear HW5 htb
   go_wp2_with fail
   refine region_mixP (m := 6) (ml := [(0, 1), (3, 1), (4, 1), (1, 0), (2, 0), (5, 0), (6, 0)]) (fun _ w' => w'.heap[tb]? = some (.cells #[.int .i64 t.kind, str t.text, .int .i64 t.num, .int .i64 (t.at_ : Int)] 43 (0, 0))) mixed (by kernel_rfl) rfl (by rfl) (by kernel_rfl) (fun c a d v w h => by cases d <;> exact h) (fun PP PQ hPP hPQ => ?_)
   refine wpMixF_take (v := ?_) rfl (by kernel_rfl) (fun f w' hw => ?_) ?_
   rotate_left
   · (go_simp; try with_reducible rfl)
   refine wpMixF_take (v := ?_) rfl (by kernel_rfl) (fun f w' hw => ?_) ?_
   rotate_left
   · (go_simp; try with_reducible rfl)
   refine wpMixF_take (v := ?_) rfl (by kernel_rfl) (fun f w' hw => ?_) ?_
   rotate_left
   · (obtain ⟨u0, u1, u2, u3⟩ := tk4 hw; go_simp; try with_reducible rfl)
   refine wpMixF_force rfl (unhide K5).2.1 (fun K hK => ?_)
   go_simp
   refine htk.mono ?_
   clear htk
   rintro en w6 ⟨rfl, hR6, k56'⟩
   obtain ⟨k5, n5, x5, q5, g1, g2⟩ := unhide K5
   have k56 : Kp rb w5 w6 := (Kp.of_below ((Below.refl _ w5).drew)).trans k56'
   have hs56 := k56.size
   have h5s := lt_hp n5
   have k6 := k5.trans k56
   have x6 := k56.keep x5 (by omega)
   have q6 := k56.keep q5 (by omega)
   have n6 := k56.keep n5 (by omega)
   have hX6 : ExS (fun b => w.heap.size < b ∧ b ≠ xb) w6 [.int .i64 3, .int .i64 0, str t.text, .slice none 0 0, .int .i64 (t.at_ : Int)] (.mk 3 0 t.text [] (t.at_ : Int)) := exS_leaf _ w6 _ _ _ _
   obtain ⟨w7, hw7⟩ : ∃ w7, w7 = ((((w6.setCell ⟨xb, 0, none⟩ (.int .i64 3)).setCell ⟨xb, 1, none⟩ (.int .i64 0)).setCell ⟨xb, 2, none⟩ (str t.text)).setCell ⟨xb, 3, none⟩ (.slice none 0 0)).setCell ⟨xb, 4, none⟩ (.int .i64 (t.at_ : Int)) := ⟨_, rfl⟩
   have n7 : w7.heap[xb]? = some (.cells #[.int .i64 3, .int .i64 0, str t.text, .slice none 0 0, .int .i64 (t.at_ : Int)] 90 (0, 0)) := by rw [hw7]; exact (set_hp (set_hp (set_hp (set_hp (set_hp x6 0 _) 1 _) 2 _) 3 _) 4 _).trans rfl
   have hsame : ∀ b, b ≠ xb → w7.heap[b]? = w6.heap[b]? := fun b hb => by
    rw [hw7, Below.heap_setCell _ _ _ _ hb, Below.heap_setCell _ _ _ _ hb, Below.heap_setCell _ _ _ _ hb, Below.heap_setCell _ _ _ _ hb, Below.heap_setCell _ _ _ _ hb]
   have s7 : w6.heap.size = w7.heap.size := by rw [hw7]; simp [World.setCell]
   have q7 : w7.heap[w.heap.size]? = some exZ := (hsame _ (by omega)).trans q6
   have k7 : Kp rb w w7 := by rw [hw7]; exact ((((k6.set2 (by omega)).set2 (by omega)).set2 (by omega)).set2 (by omega)).set2 (by omega)
   have hR7 : Rd rb e w7 l2 i2 (dp + 1) := by rw [hw7]; exact ((((hR6.set2 (by omega)).set2 (by omega)).set2 (by omega)).set2 (by omega)).set2 (by omega)
   have hX7 : ExS (fun b => w.heap.size < b ∧ b ≠ xb) w7 [.int .i64 3, .int .i64 0, str t.text, .slice none 0 0, .int .i64 (t.at_ : Int)] (.mk 3 0 t.text [] (t.at_ : Int)) := exS_ok.same _ _ w7 _ _ hX6 (by omega) (fun b hs _ => hsame b hs.2)
   have hl := leave_any hR7 (unhide HP).2.2.2.2
   have K7 := hide (And.intro k7 (And.intro n7 (And.intro q7 hX7)))
   have HW7 := hide hw7
   obtain ⟨y0, y1, y2, y3, y4, yf⟩ := ex5 x6
   have N6 := hide n6
   have N7 := hide ((hsame tb (by omega)).trans n6)
   clear hR6 k56 k56' k5 n5 x5 q5 g1 g2 hs56 h5s k6 x6 q6 n6 hX6 n7 hsame s7 q7 k7 hR7 hX7 K5 tc0 tc1 tc2 tc3
   subst hw7
   clear HW7
   go_wp2_with fail
   refine wpMixF_force rfl (unhide N6) (fun K hK => ?_)
   go_simp
   refine hK _ _ ?_
   clear hK K
   refine wpMixF_force rfl (unhide N6) (fun K hK => ?_)
   go_simp
   refine hK _ _ ?_
   clear hK K
   refine wpMixF_force rfl (unhide N6) (fun K hK => ?_)
   go_simp
   refine hK _ _ ?_
   clear hK K
   refine wpMixF_nil (unhide N7) (hPP _ _ ?_)
   clear hPP hPQ
   go_wp2_with fail
   clear y0 y1 y2 y3 y4 yf
   refine hl.mono ?_
   clear hl
   rintro en w8 ⟨rfl, hR8, k8⟩
   obtain ⟨k7, n7, q7, hX7⟩ := unhide K7
   have g3 := unhide HG
   obtain ⟨z0, z1, z2, z3, z4, zf⟩ := ex5 (k8.keep n7 (by omega))
   have hX8 := exS_ok.same _ _ w8 _ _ hX7 k8.size (fun b hs hl => k8.block b hl (by omega))
   obtain ⟨y0, y1, y2, y3, y4, yf⟩ := ex5 (k8.keep q7 (by omega))
   have HF := hide (ve_store (x := (.mk 3 0 t.text [] (t.at_ : Int))) (gb := w.heap.size) hX8 (fun b hb => ⟨by omega, by omega⟩) hR8 (k7.trans k8) (Nat.le_refl _) hrb)
   clear hR8 k8 k7 n7 q7 hX7 hX8 zf K7 g3
   go_wp2_with fail
   refine bodyPost_ret (v := .agg #[.int .i64 3, .int .i64 0, str t.text, .slice none 0 0, .int .i64 (t.at_ : Int)]) (by simp [results, Tryz.results211, go_sem, y0, y1, y2, y3, y4]) rfl ?_
   rw [unhide HPO]
   exact ⟨_, rfl, unhide HF _ _ _ _ _⟩
  ·
   have g3 : (t.kind == 3) = false := by simpa using c3
   by_cases c1 : t.kind = 1
   ·
    have g1 : (t.kind == 1) = true := by simpa using c1
    have hm := variable_any hR5 (ht ▸ c1)
    have hV : factorB e E F l it = varP e l it := by
     rw [factorB, if_neg (ht ▸ c2), if_neg (ht ▸ c3), if_pos (ht ▸ c1)]; rfl
    rw [hV] at HPO
    clear ht c1 c2 c3 hR5 hV
    go_wp2_with fail
    rw [← unhide HW5]
    clear HW5 htb
    cases hq : varP e l it with
    | bad why at1 l2 =>
     rw [hq] at hm HPO
     clear hq
     go_wp2_with fail
     refine hm.mono ?_
     clear hm
     rintro en w6 ⟨rfl, k6⟩
     have H6 := hide ((unhide K5).1.trans k6)
     clear k6
     go_wp2_with fail
     refine ⟨rfl, ?_⟩
     rw [unhide HPO]
     exact ⟨rfl, unhide H6⟩
    | ok x l2 i2 =>
     rw [hq] at hm HPO
     clear hq
     go_wp2_with fail
     refine hm.mono ?_
     clear hm
     rintro en w6 ⟨_, rfl, ⟨_, rfl, ⟨xa, xn, xc, rfl⟩, hX⟩, hR6, k56⟩
     obtain ⟨k5, n5, x5, q5, g1, g2⟩ := unhide K5
     have hs56 := k56.size
     have h5s := lt_hp n5
     have k6 := k5.trans k56
     have x6 := k56.keep x5 (by omega)
     have q6 := k56.keep q5 (by omega)
     have hX6 := exS_ok.mono _ (fun b => w.heap.size < b ∧ b ≠ xb) _ _ _ hX (fun b _ hs => ⟨by omega, by omega⟩)
     obtain ⟨w7, hw7⟩ : ∃ w7, w7 = ((((w6.setCell ⟨xb, 0, none⟩ (.int .i64 x.kind)).setCell ⟨xb, 1, none⟩ (.int .i64 x.num)).setCell ⟨xb, 2, none⟩ (str x.txt)).setCell ⟨xb, 3, none⟩ (.slice xa xn xc)).setCell ⟨xb, 4, none⟩ (.int .i64 x.at_) := ⟨_, rfl⟩
     have n7 : w7.heap[xb]? = some (.cells #[.int .i64 x.kind, .int .i64 x.num, str x.txt, .slice xa xn xc, .int .i64 x.at_] 90 (0, 0)) := by rw [hw7]; exact (set_hp (set_hp (set_hp (set_hp (set_hp x6 0 _) 1 _) 2 _) 3 _) 4 _).trans rfl
     have hsame : ∀ b, b ≠ xb → w7.heap[b]? = w6.heap[b]? := fun b hb => by
      rw [hw7, Below.heap_setCell _ _ _ _ hb, Below.heap_setCell _ _ _ _ hb, Below.heap_setCell _ _ _ _ hb, Below.heap_setCell _ _ _ _ hb, Below.heap_setCell _ _ _ _ hb]
     have s7 : w6.heap.size = w7.heap.size := by rw [hw7]; simp [World.setCell]
     have q7 : w7.heap[w.heap.size]? = some exZ := (hsame _ (by omega)).trans q6
     have k7 : Kp rb w w7 := by rw [hw7]; exact ((((k6.set2 (by omega)).set2 (by omega)).set2 (by omega)).set2 (by omega)).set2 (by omega)
     have hR7 : Rd rb e w7 l2 i2 (dp + 1) := by rw [hw7]; exact ((((hR6.set2 (by omega)).set2 (by omega)).set2 (by omega)).set2 (by omega)).set2 (by omega)
     have hX7 : ExS (fun b => w.heap.size < b ∧ b ≠ xb) w7 [.int .i64 x.kind, .int .i64 x.num, str x.txt, .slice xa xn xc, .int .i64 x.at_] x := exS_ok.same _ _ w7 _ _ hX6 (by omega) (fun b hs _ => hsame b hs.2)
     have hl := leave_any hR7 (unhide HP).2.2.2.2
     have K7 := hide (And.intro k7 (And.intro n7 (And.intro q7 hX7)))
     have HW7 := hide hw7
     obtain ⟨y0, y1, y2, y3, y4, yf⟩ := ex5 x6
     clear hX hR6 k56 k5 n5 x5 q5 g1 g2 hs56 h5s k6 x6 q6 hX6 hw7 n7 hsame s7 q7 k7 hR7 hX7 K5
     go_wp2_with fail
     rw [← unhide HW7]
     clear HW7 y0 y1 y2 y3 y4 yf
     refine hl.mono ?_
     clear hl
     rintro en w8 ⟨rfl, hR8, k8⟩
     obtain ⟨k7, n7, q7, hX7⟩ := unhide K7
     have g3 := unhide HG
     obtain ⟨z0, z1, z2, z3, z4, zf⟩ := ex5 (k8.keep n7 (by omega))
     have hX8 := exS_ok.same _ _ w8 _ _ hX7 k8.size (fun b hs hl => k8.block b hl (by omega))
     obtain ⟨y0, y1, y2, y3, y4, yf⟩ := ex5 (k8.keep q7 (by omega))
     have HF := hide (ve_store (x := x) (gb := w.heap.size) hX8 (fun b hb => ⟨by omega, by omega⟩) hR8 (k7.trans k8) (Nat.le_refl _) hrb)
     clear hR8 k8 k7 n7 q7 hX7 hX8 zf K7 g3
     go_wp2_with fail
     refine bodyPost_ret (v := .agg #[.int .i64 x.kind, .int .i64 x.num, str x.txt, .slice xa xn xc, .int .i64 x.at_]) (by simp [results, Tryz.results211, go_sem, y0, y1, y2, y3, y4]) rfl ?_
     rw [unhide HPO]
     exact ⟨_, rfl, unhide HF _ _ _ _ _⟩
   ·
    have g1 : (t.kind == 1) = false := by simpa using c1
    have hm := signed_any (unhide HP).1 (unhide HP).2.1 (unhide HP).2.2.1 (unhide HP).2.2.2.1 hR5
    have hV : factorB e E F l it = signed e E F l it := by
     rw [factorB, if_neg (ht ▸ c2), if_neg (ht ▸ c3), if_neg (ht ▸ c1)]
    rw [hV] at HPO
    clear ht c1 c2 c3 hR5 hV
    go_wp2_with fail
    rw [← unhide HW5]
    clear HW5 htb
    cases hq : signed e E F l it with
    | bad why at1 l2 =>
     rw [hq] at hm HPO
     clear hq
     go_wp2_with fail
     refine hm.mono ?_
     clear hm
     rintro en w6 ⟨rfl, k6⟩
     have H6 := hide ((unhide K5).1.trans k6)
     clear k6
     go_wp2_with fail
     refine ⟨rfl, ?_⟩
     rw [unhide HPO]
     exact ⟨rfl, unhide H6⟩
    | ok x l2 i2 =>
     rw [hq] at hm HPO
     clear hq
     go_wp2_with fail
     refine hm.mono ?_
     clear hm
     rintro en w6 ⟨_, rfl, ⟨_, rfl, ⟨xa, xn, xc, rfl⟩, hX⟩, hR6, k56⟩
     obtain ⟨k5, n5, x5, q5, g1, g2⟩ := unhide K5
     have hs56 := k56.size
     have h5s := lt_hp n5
     have k6 := k5.trans k56
     have x6 := k56.keep x5 (by omega)
     have q6 := k56.keep q5 (by omega)
     have hX6 := exS_ok.mono _ (fun b => w.heap.size < b ∧ b ≠ xb) _ _ _ hX (fun b _ hs => ⟨by omega, by omega⟩)
     obtain ⟨w7, hw7⟩ : ∃ w7, w7 = ((((w6.setCell ⟨xb, 0, none⟩ (.int .i64 x.kind)).setCell ⟨xb, 1, none⟩ (.int .i64 x.num)).setCell ⟨xb, 2, none⟩ (str x.txt)).setCell ⟨xb, 3, none⟩ (.slice xa xn xc)).setCell ⟨xb, 4, none⟩ (.int .i64 x.at_) := ⟨_, rfl⟩
     have n7 : w7.heap[xb]? = some (.cells #[.int .i64 x.kind, .int .i64 x.num, str x.txt, .slice xa xn xc, .int .i64 x.at_] 90 (0, 0)) := by rw [hw7]; exact (set_hp (set_hp (set_hp (set_hp (set_hp x6 0 _) 1 _) 2 _) 3 _) 4 _).trans rfl
     have hsame : ∀ b, b ≠ xb → w7.heap[b]? = w6.heap[b]? := fun b hb => by
      rw [hw7, Below.heap_setCell _ _ _ _ hb, Below.heap_setCell _ _ _ _ hb, Below.heap_setCell _ _ _ _ hb, Below.heap_setCell _ _ _ _ hb, Below.heap_setCell _ _ _ _ hb]
     have s7 : w6.heap.size = w7.heap.size := by rw [hw7]; simp [World.setCell]
     have q7 : w7.heap[w.heap.size]? = some exZ := (hsame _ (by omega)).trans q6
     have k7 : Kp rb w w7 := by rw [hw7]; exact ((((k6.set2 (by omega)).set2 (by omega)).set2 (by omega)).set2 (by omega)).set2 (by omega)
     have hR7 : Rd rb e w7 l2 i2 (dp + 1) := by rw [hw7]; exact ((((hR6.set2 (by omega)).set2 (by omega)).set2 (by omega)).set2 (by omega)).set2 (by omega)
     have hX7 : ExS (fun b => w.heap.size < b ∧ b ≠ xb) w7 [.int .i64 x.kind, .int .i64 x.num, str x.txt, .slice xa xn xc, .int .i64 x.at_] x := exS_ok.same _ _ w7 _ _ hX6 (by omega) (fun b hs _ => hsame b hs.2)
     have hl := leave_any hR7 (unhide HP).2.2.2.2
     have K7 := hide (And.intro k7 (And.intro n7 (And.intro q7 hX7)))
     have HW7 := hide hw7
     obtain ⟨y0, y1, y2, y3, y4, yf⟩ := ex5 x6
     clear hX hR6 k56 k5 n5 x5 q5 g1 g2 hs56 h5s k6 x6 q6 hX6 hw7 n7 hsame s7 q7 k7 hR7 hX7 K5
     go_wp2_with fail
     rw [← unhide HW7]
     clear HW7 y0 y1 y2 y3 y4 yf
     refine hl.mono ?_
     clear hl
     rintro en w8 ⟨rfl, hR8, k8⟩
     obtain ⟨k7, n7, q7, hX7⟩ := unhide K7
     have g3 := unhide HG
     obtain ⟨z0, z1, z2, z3, z4, zf⟩ := ex5 (k8.keep n7 (by omega))
     have hX8 := exS_ok.same _ _ w8 _ _ hX7 k8.size (fun b hs hl => k8.block b hl (by omega))
     obtain ⟨y0, y1, y2, y3, y4, yf⟩ := ex5 (k8.keep q7 (by omega))
     have HF := hide (ve_store (x := x) (gb := w.heap.size) hX8 (fun b hb => ⟨by omega, by omega⟩) hR8 (k7.trans k8) (Nat.le_refl _) hrb)
     clear hR8 k8 k7 n7 q7 hX7 hX8 zf K7 g3
     go_wp2_with fail
     refine bodyPost_ret (v := .agg #[.int .i64 x.kind, .int .i64 x.num, str x.txt, .slice xa xn xc, .int .i64 x.at_]) (by simp [results, Tryz.results211, go_sem, y0, y1, y2, y3, y4]) rfl ?_
     rw [unhide HPO]
     exact ⟨_, rfl, unhide HF _ _ _ _ _⟩
end Go.Proofs.YtdjehbdpcdikkaaGreatDoor

namespace Go.Proofs.YtdjehbdpcdikkaaGreatDoor
open Go.RowKit Go.Maps

theorem num_ex {e : Nat} : ∀ (d : Nat) (l : List Tok) (it : Nat) (x : Ex) (l2 : List Tok) (i2 : Nat), (ahd e 0 l).kind = 2 → (exD e d).2 l it = .ok x l2 i2 → x.num = (ahd e 0 l).num
 | 0, l, it, x, l2, i2, hk, h => by cases h
 | d + 1, l, it, x, l2, i2, hk, h => by
  have h' : factorB e (exD e d).1 (exD e d).2 l it = .ok x l2 i2 := h
  rw [factorB, if_pos hk] at h'
  cases h'; rfl
theorem ex_all {rb e : Nat} : ∀ (d dp : Nat), dp + d = 32 → OpC 185 rb e dp (exD e d).1 ∧ OpC 211 rb e dp (exD e d).2
 | 0, dp, h => by
  obtain rfl : dp = 32 := h
  exact ⟨expr_no, factor_no⟩
 | d + 1, dp, h => by
  have ih := ex_all (rb := rb) (e := e) d (dp + 1) (by omega)
  exact ⟨expr_any (by omega) (term_any ih.2 (shr_ex d).2) (shr_joined (shr_ex d).2), factor_any (by omega) ih.1 (shr_ex d).1 ih.2 (num_ex d)⟩
end Go.Proofs.YtdjehbdpcdikkaaGreatDoor

namespace Go.Proofs.YtdjehbdpcdikkaaGreatDoor
open Go.RowKit Go.Maps

/-- The cells of a block of three. -/
theorem cl3 {w : World} {b : Nat} {T : TypeId} {v0 v1 v2 : Value} (h : w.heap[b]? = some (.cells #[v0, v1, v2] T (0, 0))) :
  w.cell? ⟨b, 0, none⟩ = some v0 ∧ w.cell? ⟨b, 1, none⟩ = some v1 ∧ w.cell? ⟨b, 2, none⟩ = some v2 ∧ ∀ o, w.frozen? ⟨b, o, none⟩ = false :=
 ⟨(cell_hp h 0).trans rfl, (cell_hp h 1).trans rfl, (cell_hp h 2).trans rfl, fun o => by simp [World.frozen?, h]⟩
abbrev amZ : Obj := .cells #[.string ⟨#[]⟩, .slice none 0 0, .int .i64 0] 79
/-- An atom's three cells. -/
def AmS (S : Nat → Prop) (w : World) (cs : List Value) (a : Atm) : Prop := ∃ xa xn xc, cs = [str a.rel, .slice xa xn xc, .int .i64 a.at_] ∧ LsAt PE 5 S w (.slice xa xn xc) a.args
def VAm (S : Nat → Prop) (w : World) (v : Value) (a : Atm) : Prop := ∃ xa xn xc, v = .agg #[str a.rel, .slice xa xn xc, .int .i64 a.at_] ∧ LsAt PE 5 S w (.slice xa xn xc) a.args

set_option maxRecDepth 100000 in
set_option maxHeartbeats 4000000 in
theorem atom_any {rb e dp d : Nat} (hd : dp + d = 32) {w : World} {l : List Tok} {it : Nat} (h : Rd rb e w l it dp) :
  Calls Tryz.prog 164 #[.pointer (some ⟨rb, 0, none⟩)] w fun en w' => Ans rb e dp w (fun w2 v x => VAm (fun b => w.heap.size ≤ b) w2 v x) (atomP e d l it) en w' := by
 obtain ⟨w1, hw1⟩ : ∃ w1, w1 = w.alloc amZ := ⟨_, rfl⟩
 have b1 : Below w.heap.size w w1 := by rw [hw1]; exact (Below.refl _ w).alloc (Nat.le_refl _) _
 have q1 : w1.heap[w.heap.size]? = some amZ := by rw [hw1]; exact heap_alloc_new w _
 have s1 : w1.heap.size = w.heap.size + 1 := by rw [hw1]; simp
 have ha := ahead_any (h.later b1) 0
 unfold tokV at ha
 have hrb := h.lt
 obtain ⟨PO, hPO⟩ : ∃ PO : Ending → World → Prop, PO = fun en w' => Ans rb e dp w (fun w2 v x => VAm (fun b => w.heap.size ≤ b) w2 v x) (atomP e d l it) en w' := ⟨_, rfl⟩
 rw [← hPO]
 have HW1 : Hid (w1 = w.alloc (.cells #[.string ⟨#[]⟩, .slice none 0 0, .int .i64 0] 79)) := hw1
 have HH := hide (And.intro h (And.intro b1 (And.intro q1 s1)))
 have HPO := hide hPO
 have HP := hide (And.intro (ex_all (rb := rb) (e := e) d dp hd).1 (shr_ex (e := e) d).1)
 obtain ⟨t, ht⟩ : ∃ t, t = ahd e 0 l := ⟨_, rfl⟩
 rw [← ht] at ha
 have hsg : Hid (atomP e d l it = (nmQ e l it).bind fun n l2 i => (encl e [40] [41] (exD e d).1 l2 i).map fun ks => ⟨n, ks, t.at_⟩) := by rw [ht]; rfl
 generalize atomP e d l it = sr at HPO hsg
 clear h b1 q1 s1 hw1 hPO ht hd
 go_enter Tryz.func164, Tryz.ntmps164
 go_wp2_with fail
 rw [← unhide HW1]
 refine ha.mono ?_
 clear ha
 rintro en w2 ⟨rfl, b2⟩
 obtain ⟨h, b1, q1, s1⟩ := unhide HH
 have hs2 := b2.size
 obtain ⟨w3, hw3⟩ : ∃ w3, w3 = w2.alloc (.cells #[.string ⟨#[]⟩, .slice none 0 0, .int .i64 (t.at_ : Int)] 79) := ⟨_, rfl⟩
 have b3 : Below w.heap.size w w3 := by rw [hw3]; exact (b1.trans (b2.mono (by omega))).alloc (by omega) _
 have n3 : w3.heap[w2.heap.size]? = some (.cells #[.string ⟨#[]⟩, .slice none 0 0, .int .i64 (t.at_ : Int)] 79 (0, 0)) := by rw [hw3]; exact heap_alloc_new w2 _
 have q3 : w3.heap[w.heap.size]? = some amZ := by rw [hw3, Below.heap_alloc _ _ _ (by omega)]; exact (b2.block _ (by omega)).trans q1
 have s3 : w3.heap.size = w2.heap.size + 1 := by rw [hw3]; simp
 have hc := name_any (h.later b3)
 have HW3 := hide hw3
 have K3 := hide (And.intro (Kp.of_below (rb := rb) b3) (And.intro n3 (And.intro q3 (And.intro (by omega : w.heap.size + 1 ≤ w2.heap.size) s3))))
 generalize hxb : w2.heap.size = xb at K3
 clear h b1 q1 s1 hs2 b2 b3 n3 q3 s3 hw3 HH
 go_wp2_with fail
 rename_i hK
 refine hK _ _ ?_
 clear hK
 cases hq : nmQ e l it with
 | bad why at1 l2 =>
  rw [hq] at hc hsg
  rw [unhide hsg] at HPO
  clear hq hsg
  go_wp2_with fail
  rw [← unhide HW3]
  refine hc.mono ?_
  clear hc
  rintro en w4 ⟨rfl, k4⟩
  have H4 := hide ((unhide K3).1.trans k4)
  clear k4
  go_wp2_with fail
  refine ⟨rfl, ?_⟩
  rw [unhide HPO]
  exact ⟨rfl, unhide H4⟩
 | ok s l2 i2 =>
  rw [hq] at hc hsg
  clear hq
  go_wp2_with fail
  rw [← unhide HW3]
  clear HW3 hxb
  refine hc.mono ?_
  clear hc
  rintro en w4 ⟨_, rfl, rfl, hR4, k4⟩
  obtain ⟨k3, n3, q3, g1, s3⟩ := unhide K3
  have hs4 := k4.size
  have n4 := k4.keep n3 (by omega)
  have q4 := k4.keep q3 (by omega)
  have hne : w.heap.size ≠ xb := by omega
  obtain ⟨c0, c1, c2, cf⟩ := cl3 n4
  obtain ⟨w5, hw5⟩ : ∃ w5, w5 = w4.setCell ⟨xb, 0, none⟩ (str s) := ⟨_, rfl⟩
  have n5 : w5.heap[xb]? = some (.cells #[str s, .slice none 0 0, .int .i64 (t.at_ : Int)] 79 (0, 0)) := by rw [hw5]; exact (set_hp n4 0 _).trans rfl
  have q5 : w5.heap[w.heap.size]? = some amZ := by rw [hw5, Below.heap_setCell _ _ _ _ hne]; exact q4
  have k5 : Kp rb w w5 := by rw [hw5]; exact (k3.trans k4).set2 (by omega)
  have hR5 : Rd rb e w5 l2 i2 dp := by rw [hw5]; exact hR4.set2 (by omega)
  have s5 : w4.heap.size = w5.heap.size := by rw [hw5]; simp [World.setCell]
  have hen := enclE_any PE exS_ok (partE_of (unhide HP).1) (unhide HP).2 hR5 [40] [41] (by decide) (by decide)
  have HW5 := hide hw5
  have K5 := hide (And.intro k5 (And.intro n5 (And.intro q5 (And.intro g1 (by omega : xb < w5.heap.size)))))
  clear k3 n3 q3 g1 s3 hs4 n4 q4 c1 c2 hw5 n5 q5 k5 hR5 s5 K3 hR4 k4
  cases hq : encl e [40] [41] (exD e d).1 l2 i2 with
  | bad why at1 l4 =>
   have HPO2 : Hid (PO = fun en w' => Ans rb e dp w (fun w2 v x => VAm (fun b => w.heap.size ≤ b) w2 v x) (.bad why at1 l4) en w') := by
    have := unhide HPO
    rw [unhide hsg, Rs.bind, hq] at this
    exact this
   rw [hq] at hen
   clear hq HPO hsg
   go_wp2_with fail
   rw [← unhide HW5]
   refine hen.mono ?_
   clear hen
   rintro en w7 ⟨rfl, k7⟩
   have H7 := hide ((unhide K5).1.trans k7)
   clear k7
   go_wp2_with fail
   refine ⟨rfl, ?_⟩
   rw [unhide HPO2]
   exact ⟨rfl, unhide H7⟩
  | ok ks l4 i4 =>
   have HPO2 : Hid (PO = fun en w' => Ans rb e dp w (fun w2 v x => VAm (fun b => w.heap.size ≤ b) w2 v x) (.ok ⟨s, ks, t.at_⟩ l4 i4) en w') := by
    have := unhide HPO
    rw [unhide hsg, Rs.bind, hq] at this
    exact this
   rw [hq] at hen
   clear hq HPO hsg
   go_wp2_with fail
   rw [← unhide HW5]
   clear HW5
   refine hen.mono ?_
   clear hen
   rintro en w7 ⟨_, rfl, hL, hR7, k7⟩
   obtain ⟨ka, kc, _, ev, _⟩ := id hL
   subst ev
   obtain ⟨k5, n5, q5, g1, g2⟩ := unhide K5
   have n7 := k7.keep n5 (by omega)
   have q7 := k7.keep q5 (by omega)
   obtain ⟨w8, hw8⟩ : ∃ w8, w8 = w7.setCell ⟨xb, 1, none⟩ (.slice ka ks.length kc) := ⟨_, rfl⟩
   have n8 : w8.heap[xb]? = some (.cells #[str s, .slice ka ks.length kc, .int .i64 (t.at_ : Int)] 79 (0, 0)) := by rw [hw8]; exact (set_hp n7 1 _).trans rfl
   have q8 : w8.heap[w.heap.size]? = some amZ := by rw [hw8, Below.heap_setCell _ _ _ _ hne]; exact q7
   have k8 : Kp rb w w8 := by rw [hw8]; exact (k5.trans k7).set2 (by omega)
   have hR8 : Rd rb e w8 l4 i4 dp := by rw [hw8]; exact hR7.set2 (by omega)
   have hL8 : LsAt PE 5 (fun b => w5.heap.size ≤ b) w8 (.slice ka ks.length kc) ks := by
    refine hL.same exS_ok (by rw [hw8]; simp [World.setCell]) (fun b hb hl => ?_)
    have hb' : w5.heap.size ≤ b := hb
    have hn : b ≠ xb := by omega
    rw [hw8, Below.heap_setCell _ _ _ _ hn]
   obtain ⟨x0, x1, x2, xf⟩ := cl3 n7
   obtain ⟨z0, z1, z2, zf⟩ := cl3 n8
   obtain ⟨y0, y1, y2, yf⟩ := cl3 q8
   have HF : Hid (∀ q0 q1 q2, VAm (fun b => w.heap.size ≤ b) (((w8.setCell ⟨w.heap.size, 0, none⟩ q0).setCell ⟨w.heap.size, 1, none⟩ q1).setCell ⟨w.heap.size, 2, none⟩ q2) (.agg #[str s, .slice ka ks.length kc, .int .i64 (t.at_ : Int)]) ⟨s, ks, t.at_⟩ ∧ Rd rb e (((w8.setCell ⟨w.heap.size, 0, none⟩ q0).setCell ⟨w.heap.size, 1, none⟩ q1).setCell ⟨w.heap.size, 2, none⟩ q2) l4 i4 dp ∧ Kp rb w (((w8.setCell ⟨w.heap.size, 0, none⟩ q0).setCell ⟨w.heap.size, 1, none⟩ q1).setCell ⟨w.heap.size, 2, none⟩ q2)) := fun q0 q1 q2 => by
    have hsame : ∀ b, b ≠ w.heap.size → (((w8.setCell ⟨w.heap.size, 0, none⟩ q0).setCell ⟨w.heap.size, 1, none⟩ q1).setCell ⟨w.heap.size, 2, none⟩ q2).heap[b]? = w8.heap[b]? := fun b hb => by
     rw [Below.heap_setCell _ _ _ _ hb, Below.heap_setCell _ _ _ _ hb, Below.heap_setCell _ _ _ _ hb]
    exact ⟨⟨_, _, _, rfl, (hL8.same exS_ok (by simp [World.setCell]) (fun b hb hl => hsame b (by have hb' : w5.heap.size ≤ b := hb; omega))).mono exS_ok (fun b _ hb => by have hb' : w5.heap.size ≤ b := hb; omega)⟩, ((hR8.set2 (by omega)).set2 (by omega)).set2 (by omega), ((k8.set2 (by omega)).set2 (by omega)).set2 (by omega)⟩
   clear hR7 k7 k5 n5 q5 g1 g2 n7 q7 n8 q8 k8 hR8 hL8 hL x0 x2 zf hne
   subst hw8
   go_wp2_with fail
   refine bodyPost_ret (v := .agg #[str s, .slice ka ks.length kc, .int .i64 t.at_]) (by simp [results, Tryz.results164, go_sem, y0, y1, y2]) rfl ?_
   rw [unhide HPO2]
   exact ⟨_, rfl, unhide HF _ _ _⟩
end Go.Proofs.YtdjehbdpcdikkaaGreatDoor
