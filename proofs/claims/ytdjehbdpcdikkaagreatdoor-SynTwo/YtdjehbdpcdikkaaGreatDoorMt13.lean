/- syn: variable. syn: minus. syn: signed. -/
import Derived.Test.YtdjehbdpcdikkaaGreatDoorMt12
namespace Go.Proofs.YtdjehbdpcdikkaaGreatDoor
open Go.RowKit Go.Maps

/-- A token's block. -/
theorem tk4 {w : World} {b : Nat} {t : Tok} (h : w.heap[b]? = some (.cells #[.int .i64 t.kind, str t.text, .int .i64 t.num, .int .i64 (t.at_ : Int)] 43 (0, 0))) :
  w.cell? ⟨b, 0, none⟩ = some (.int .i64 t.kind) ∧ w.cell? ⟨b, 1, none⟩ = some (str t.text) ∧ w.cell? ⟨b, 2, none⟩ = some (.int .i64 t.num) ∧ w.cell? ⟨b, 3, none⟩ = some (.int .i64 (t.at_ : Int)) :=
 ⟨(cell_hp h 0).trans rfl, (cell_hp h 1).trans rfl, (cell_hp h 2).trans rfl, (cell_hp h 3).trans rfl⟩
/-- A variable, or none. -/
def varP (e : Nat) : Pr Ex := fun l i =>
  if (ahd e 0 l).text = [95] then .ok (.mk 4 0 [] [] (ahd e 0 l).at_) (l.drop 1) i
  else (wordQ e l i).map fun w => .mk 1 0 w [] (ahd e 0 l).at_

set_option maxRecDepth 100000 in
set_option maxHeartbeats 4000000 in
theorem variable_any {rb e dp : Nat} {w : World} {l : List Tok} {it : Nat} (h : Rd rb e w l it dp) (hk1 : (ahd e 0 l).kind = 1) :
  Calls Tryz.prog 218 #[.pointer (some ⟨rb, 0, none⟩)] w fun en w' => Ans rb e dp w (fun w2 v x => VE (fun b => w.heap.size ≤ b) w2 v x) (varP e l it) en w' := by
 have mixed : Tryz.prog.follows .mixedOrders = true := by kernel_rfl
 obtain ⟨t, l', rfl, hk⟩ := ahd_kind hk1 (by decide)
 obtain ⟨w1, hw1⟩ : ∃ w1, w1 = w.alloc exZ := ⟨_, rfl⟩
 have b1 : Below w.heap.size w w1 := by rw [hw1]; exact (Below.refl _ w).alloc (Nat.le_refl _) _
 have q1 : w1.heap[w.heap.size]? = some exZ := by rw [hw1]; exact heap_alloc_new w _
 have s1 : w1.heap.size = w.heap.size + 1 := by rw [hw1]; simp
 have ha := ahead_any (h.later b1) 0
 unfold tokV at ha
 have e0 : ahd e 0 (t :: l') = t := rfl
 rw [e0] at ha
 have hrb := h.lt
 obtain ⟨PO, hPO⟩ : ∃ PO : Ending → World → Prop, PO = fun en w' => Ans rb e dp w (fun w2 v x => VE (fun b => w.heap.size ≤ b) w2 v x) (varP e (t :: l') it) en w' := ⟨_, rfl⟩
 rw [← hPO]
 have HW1 : Hid (w1 = w.alloc (.cells #[.int .i64 0, .int .i64 0, .string ⟨#[]⟩, .slice none 0 0, .int .i64 0] 90)) := hw1
 have HH := hide (And.intro h (And.intro b1 (And.intro q1 s1)))
 have HPO := hide hPO
 clear h b1 q1 s1 hw1 hk hk1 e0 hPO
 go_enter Tryz.func218, Tryz.ntmps218
 go_wp2_with fail
 rw [← unhide HW1]
 refine ha.mono ?_
 clear ha
 rintro en w2 ⟨rfl, b2⟩
 obtain ⟨h, b1, q1, s1⟩ := unhide HH
 have hs2 := b2.size
 obtain ⟨w3, hw3⟩ : ∃ w3, w3 = w2.alloc (.cells #[.int .i64 t.kind, str t.text, .int .i64 t.num, .int .i64 (t.at_ : Int)] 43) := ⟨_, rfl⟩
 have b3 : Below w.heap.size w w3 := by rw [hw3]; exact (b1.trans (b2.mono (by omega))).alloc (by omega) _
 have n3 : w3.heap[w2.heap.size]? = some (.cells #[.int .i64 t.kind, str t.text, .int .i64 t.num, .int .i64 (t.at_ : Int)] 43 (0, 0)) := by rw [hw3]; exact heap_alloc_new w2 _
 have q3 : w3.heap[w.heap.size]? = some exZ := by rw [hw3, Below.heap_alloc _ _ _ (by omega)]; exact (b2.block _ (by omega)).trans q1
 have s3 : w3.heap.size = w2.heap.size + 1 := by rw [hw3]; simp
 have ht : Calls Tryz.prog 150 #[.pointer (some ⟨rb, 0, none⟩)] w3 fun en w' => en = .returned (.agg #[.int .i64 t.kind, str t.text, .int .i64 t.num, .int .i64 (t.at_ : Int)]) ∧ Rd rb e w' l' it dp ∧ Kp rb w3 w' := take_any (h.later b3)
 have HWd := hide (wordq_any ((h.later b3).later ((Below.refl _ w3).drew)))
 obtain ⟨tc0, tc1, tc2, tc3⟩ := tk4 n3
 have HW3 := hide hw3
 have K3 := hide (And.intro (Kp.of_below (rb := rb) b3) (And.intro n3 (And.intro q3 (And.intro s3 (by omega : w.heap.size + 1 ≤ w2.heap.size)))))
 generalize htb : w2.heap.size = tb at tc0 tc1 tc2 tc3 K3
 clear h b1 q1 s1 hs2 b2 b3 n3 q3 s3 hw3 HH
 by_cases hS : t.text = [95]
 ·
  have E : varP e (t :: l') it = .ok (.mk 4 0 [] [] t.at_) l' it := if_pos hS
  rw [E] at HPO
  have g1 : (t.text == [95]) = true := by simpa using hS
  clear E hS HWd
  go_wp2_with fail
  rw [← unhide HW3]
  clear HW3
  go_wp2_with fail
  refine ht.mono ?_
  clear ht
  rintro en w4 ⟨rfl, hR4, k4⟩
  obtain ⟨k3, n3, q3, s3, s3'⟩ := unhide K3
  obtain ⟨y0, y1, y2, y3, y4, yf⟩ := ex5 (k4.keep q3 (by omega))
  have HF := hide (ve_store (x := .mk 4 0 [] [] t.at_) (S := fun _ => False) (gb := w.heap.size) (exS_leaf _ w4 4 0 t.at_ []) (fun b hb => hb.elim) hR4 (k3.trans k4) (Nat.le_refl _) hrb)
  clear hR4 k4 k3 n3 q3 s3 s3' tc0 tc1 tc2 tc3 htb
  go_wp2_with fail
  rename_i hK
  refine hK _ _ ?_
  clear hK
  go_wp2_with fail
  refine bodyPost_ret (v := .agg #[.int .i64 4, .int .i64 0, .string ⟨#[]⟩, .slice none 0 0, .int .i64 t.at_]) (by simp [results, Tryz.results218, go_sem, y0, y1, y2, y3, y4]) rfl ?_
  rw [unhide HPO]
  exact ⟨_, rfl, unhide HF _ _ _ _ _⟩
 ·
  have g1 : (t.text == [95]) = false := by simpa using hS
  have E : varP e (t :: l') it = (wordQ e (t :: l') it).map fun w => .mk 1 0 w [] t.at_ := if_neg hS
  rw [E] at HPO
  have hop := unhide HWd
  clear E hS HWd ht
  cases hq : wordQ e (t :: l') it with
  | bad why at0 l2 =>
   rw [hq] at hop HPO
   clear hq
   go_wp2_with fail
   rw [← unhide HW3]
   clear HW3
   go_wp2_with fail
   refine region_mixP (m := 5) (ml := [(0, 1), (2, 1), (3, 1), (1, 0), (4, 0), (5, 0)]) (fun _ w' => w'.heap[tb]? = some (.cells #[.int .i64 t.kind, str t.text, .int .i64 t.num, .int .i64 (t.at_ : Int)] 43 (0, 0))) mixed (by kernel_rfl) rfl (by rfl) (by kernel_rfl) (fun c a d v w h => by cases d <;> exact h) (fun PP PQ hPP hPQ => ?_)
   refine wpMixF_take (v := ?_) rfl (by kernel_rfl) (fun f w' hw => ?_) ?_
   rotate_left
   · (go_simp; try with_reducible rfl)
   refine wpMixF_take (v := ?_) rfl (by kernel_rfl) (fun f w' hw => ?_) ?_
   rotate_left
   · (go_simp; try with_reducible rfl)
   refine wpMixF_take (v := ?_) rfl (by kernel_rfl) (fun f w' hw => ?_) ?_
   rotate_left
   · (obtain ⟨u0, u1, u2, u3⟩ := tk4 hw; go_simp; try with_reducible rfl)
   refine wpMixF_force rfl (unhide K3).2.1 (fun K hK => ?_)
   go_simp
   refine hop.mono ?_
   clear hop
   rintro en w4 ⟨rfl, k4⟩
   have H4 := hide (((unhide K3).1.trans (Kp.of_below ((Below.refl _ w3).drew))).trans k4)
   clear k4
   go_wp2_with fail
   show PQ _ _ _
   refine hPQ _ _ _ ⟨rfl, ?_⟩
   rw [unhide HPO]
   exact ⟨rfl, unhide H4⟩
  | ok x l2 i2 =>
   rw [hq] at hop HPO
   clear hq
   go_wp2_with fail
   rw [← unhide HW3]
   clear HW3
   go_wp2_with fail
   refine region_mixP (m := 5) (ml := [(0, 1), (2, 1), (3, 1), (1, 0), (4, 0), (5, 0)]) (fun _ w' => w'.heap[tb]? = some (.cells #[.int .i64 t.kind, str t.text, .int .i64 t.num, .int .i64 (t.at_ : Int)] 43 (0, 0))) mixed (by kernel_rfl) rfl (by rfl) (by kernel_rfl) (fun c a d v w h => by cases d <;> exact h) (fun PP PQ hPP hPQ => ?_)
   refine wpMixF_take (v := ?_) rfl (by kernel_rfl) (fun f w' hw => ?_) ?_
   rotate_left
   · (go_simp; try with_reducible rfl)
   refine wpMixF_take (v := ?_) rfl (by kernel_rfl) (fun f w' hw => ?_) ?_
   rotate_left
   · (go_simp; try with_reducible rfl)
   refine wpMixF_take (v := ?_) rfl (by kernel_rfl) (fun f w' hw => ?_) ?_
   rotate_left
   · (obtain ⟨u0, u1, u2, u3⟩ := tk4 hw; go_simp; try with_reducible rfl)
   refine wpMixF_force rfl (unhide K3).2.1 (fun K hK => ?_)
   go_simp
   refine hop.mono ?_
   clear hop
   rintro en w4 ⟨_, rfl, rfl, hR4, k4'⟩
   obtain ⟨k3, n3, q3, s3, s3'⟩ := unhide K3
   have k4 : Kp rb w3 w4 := (Kp.of_below ((Below.refl _ w3).drew)).trans k4'
   have n4 := k4.keep n3 (by omega)
   have N4 := hide n4
   obtain ⟨y0, y1, y2, y3, y4, yf⟩ := ex5 (k4.keep q3 (by omega))
   have hne : tb ≠ w.heap.size := by omega
   have HN5 : Hid (∀ q0 q1 q2 q3 q4, (((((w4.setCell ⟨w.heap.size, 0, none⟩ q0).setCell ⟨w.heap.size, 1, none⟩ q1).setCell ⟨w.heap.size, 2, none⟩ q2).setCell ⟨w.heap.size, 3, none⟩ q3).setCell ⟨w.heap.size, 4, none⟩ q4).heap[tb]? = some (.cells #[.int .i64 t.kind, str t.text, .int .i64 t.num, .int .i64 (t.at_ : Int)] 43 (0, 0))) := fun q0 q1 q2 q3 q4 => by
    rw [Below.heap_setCell _ _ _ _ hne, Below.heap_setCell _ _ _ _ hne, Below.heap_setCell _ _ _ _ hne, Below.heap_setCell _ _ _ _ hne, Below.heap_setCell _ _ _ _ hne]; exact n4
   have HF := hide (ve_store (x := .mk 1 0 x [] t.at_) (S := fun _ => False) (gb := w.heap.size) (exS_leaf _ w4 1 0 t.at_ x) (fun b hb => hb.elim) hR4 (k3.trans k4) (Nat.le_refl _) hrb)
   clear hR4 k4 k3 n3 q3 s3 s3' tc0 tc1 tc2 tc3 htb k4' n4 hne
   go_wp2_with fail
   refine wpMixF_force rfl (unhide N4) (fun K hK => ?_)
   go_simp
   refine hK _ _ ?_
   clear hK K
   refine wpMixF_force rfl (unhide N4) (fun K hK => ?_)
   go_simp
   refine hK _ _ ?_
   clear hK K
   refine wpMixF_nil (unhide HN5 _ _ _ _ _) (hPP _ _ ?_)
   clear hPP hPQ
   go_wp2_with fail
   refine bodyPost_ret (v := .agg #[.int .i64 1, .int .i64 0, str x, .slice none 0 0, .int .i64 t.at_]) (by simp [results, Tryz.results218, go_sem, y0, y1, y2, y3, y4]) rfl ?_
   rw [unhide HPO]
   exact ⟨_, rfl, unhide HF _ _ _ _ _⟩
end Go.Proofs.YtdjehbdpcdikkaaGreatDoor

namespace Go.Proofs.YtdjehbdpcdikkaaGreatDoor
open Go.RowKit Go.Maps

/-- What stands behind a minus. -/
def minP (e : Nat) (F : Pr Ex) (at0 : Int) : Pr Ex := fun l i => (F l i).map fun x => if (ahd e 0 l).kind = 2 then .mk 2 (- x.num) [] [] at0 else opE [45] (.mk 2 0 [] [] at0) x

set_option maxRecDepth 100000 in
set_option maxHeartbeats 4000000 in
theorem minus_any {rb e dp : Nat} {part : Pr Ex} (hpart : OpC 211 rb e dp part) (hnum : ∀ l it x l2 i2, (ahd e 0 l).kind = 2 → part l it = .ok x l2 i2 → x.num = (ahd e 0 l).num) {w : World} {l : List Tok} {it : Nat} (h : Rd rb e w l it dp) (at0 : Int) :
  Calls Tryz.prog 226 #[.pointer (some ⟨rb, 0, none⟩), .int .i64 at0] w fun en w' => Ans rb e dp w (fun w2 v x => VE (fun b => w.heap.size ≤ b) w2 v x) (minP e part at0 l it) en w' := by
 obtain ⟨w1, hw1⟩ : ∃ w1, w1 = w.alloc exZ := ⟨_, rfl⟩
 have b1 : Below w.heap.size w w1 := by rw [hw1]; exact (Below.refl _ w).alloc (Nat.le_refl _) _
 have q1 : w1.heap[w.heap.size]? = some exZ := by rw [hw1]; exact heap_alloc_new w _
 have s1 : w1.heap.size = w.heap.size + 1 := by rw [hw1]; simp
 have ha := ahead_any (h.later b1) 0
 unfold tokV at ha
 have hrb := h.lt
 have hbn : (ahd e 0 l).kind = 2 → 0 ≤ (ahd e 0 l).num ∧ (ahd e 0 l).num ≤ 9223372036854775807 := fun hk => by
  obtain ⟨t, l', rfl, hk'⟩ := ahd_kind hk (by decide)
  have := h.num t (List.mem_cons_self ..)
  exact ⟨this.2.2.1, this.2.2.2.1⟩
 obtain ⟨PO, hPO⟩ : ∃ PO : Ending → World → Prop, PO = fun en w' => Ans rb e dp w (fun w2 v x => VE (fun b => w.heap.size ≤ b) w2 v x) (minP e part at0 l it) en w' := ⟨_, rfl⟩
 rw [← hPO]
 have HW1 : Hid (w1 = w.alloc (.cells #[.int .i64 0, .int .i64 0, .string ⟨#[]⟩, .slice none 0 0, .int .i64 0] 90)) := hw1
 have HH := hide (And.intro h (And.intro b1 (And.intro q1 s1)))
 have HPO := hide hPO
 have HP := hide hpart
 have HN := hide (And.intro (fun x l2 i2 => hnum l it x l2 i2) hbn)
 have hmin : Hid (minP e part at0 l it = (part l it).map fun x => if (ahd e 0 l).kind = 2 then .mk 2 (- x.num) [] [] at0 else opE [45] (.mk 2 0 [] [] at0) x) := rfl
 generalize minP e part at0 l it = mr at HPO hmin
 generalize ahd e 0 l = t at ha HN hmin
 clear h b1 q1 s1 hw1 hPO hpart hnum hbn
 go_enter Tryz.func226, Tryz.ntmps226
 go_wp2_with fail
 rw [← unhide HW1]
 refine ha.mono ?_
 clear ha
 rintro en w2 ⟨rfl, b2⟩
 obtain ⟨h, b1, q1, s1⟩ := unhide HH
 have hs2 := b2.size
 have b02 : Below w.heap.size w w2 := b1.trans (b2.mono (by omega))
 have hop := unhide HP w2 l it (h.later b02)
 have K2 := hide (And.intro (Kp.of_below (rb := rb) b02) (And.intro ((b2.block _ (by omega)).trans q1) (by omega : w.heap.size + 1 ≤ w2.heap.size)))
 clear h b1 q1 s1 hs2 b2 b02 HH HP
 go_wp2_with fail
 rename_i hK
 refine hK _ _ ?_
 clear hK
 cases hq : part l it with
 | bad why at1 l2 =>
  rw [hq] at hop hmin
  rw [unhide hmin] at HPO
  clear hq hmin HN
  go_wp2_with fail
  refine hop.mono ?_
  clear hop
  rintro en w3 ⟨rfl, k3⟩
  have H3 := hide ((unhide K2).1.trans k3)
  clear k3
  go_wp2_with fail
  refine ⟨rfl, ?_⟩
  rw [unhide HPO]
  exact ⟨rfl, unhide H3⟩
 | ok x l2 i2 =>
  rw [hq] at hop hmin
  have hN1 : t.kind = 2 → x.num = t.num ∧ 0 ≤ t.num ∧ t.num ≤ 9223372036854775807 := fun hk => ⟨(unhide HN).1 x l2 i2 hk hq, (unhide HN).2 hk⟩
  have HN1 := hide hN1
  rw [unhide hmin] at HPO
  clear hq hmin HN hN1
  go_wp2_with fail
  refine hop.mono ?_
  clear hop
  rintro en w4 ⟨_, rfl, ⟨_, rfl, ⟨xa, xn, xc, rfl⟩, hX⟩, hR4, k4⟩
  obtain ⟨k3, q3, s3⟩ := unhide K2
  have hs4 := k4.size
  obtain ⟨w5, hw5⟩ : ∃ w5, w5 = w4.alloc (.cells #[.int .i64 x.kind, .int .i64 x.num, str x.txt, .slice xa xn xc, .int .i64 x.at_] 90) := ⟨_, rfl⟩
  have b5 : Below w4.heap.size w4 w5 := by rw [hw5]; exact (Below.refl _ w4).alloc (Nat.le_refl _) _
  have n5 : w5.heap[w4.heap.size]? = some (.cells #[.int .i64 x.kind, .int .i64 x.num, str x.txt, .slice xa xn xc, .int .i64 x.at_] 90 (0, 0)) := by rw [hw5]; exact heap_alloc_new w4 _
  have hX5 := exS_ok.same _ _ w5 _ _ hX b5.size (fun b _ hl => b5.block b hl)
  have q5 : w5.heap[w.heap.size]? = some exZ := (b5.block _ (by omega)).trans (k4.keep q3 (by omega))
  have s5 : w5.heap.size = w4.heap.size + 1 := by rw [hw5]; simp
  have k5 : Kp rb w w5 := (k3.trans k4).trans (Kp.of_below b5)
  have hR5 := hR4.later b5
  obtain ⟨z0, z1, z2, z3, z4, zf⟩ := ex5 n5
  have HW5 := hide hw5
  have hg4 : w.heap.size + 1 ≤ w4.heap.size := by omega
  generalize hxb : w4.heap.size = xb at z0 z1 z2 z3 z4 zf
  by_cases hk : t.kind = 2
  ·
   have gk : (t.kind == 2) = true := by simpa using hk
   obtain ⟨e1, e2, e3⟩ := unhide HN1 hk
   rw [← e1] at e2 e3
   obtain ⟨y0, y1, y2, y3, y4, yf⟩ := ex5 q5
   have HF := hide (ve_store (x := .mk 2 (- x.num) [] [] at0) (S := fun _ => False) (gb := w.heap.size) (exS_leaf _ w5 2 (- x.num) at0 []) (fun b hb => hb.elim) hR5 k5 (Nat.le_refl _) hrb)
   have HPO2 : Hid (PO = fun en w' => Ans rb e dp w (fun w2 v x => VE (fun b => w.heap.size ≤ b) w2 v x) (.ok (.mk 2 (- x.num) [] [] at0) l2 i2) en w') := by
    have := unhide HPO
    rw [Rs.map, if_pos hk] at this
    exact this
   clear hX hR4 k4 k3 q3 s3 hs4 b5 n5 hX5 q5 s5 k5 hR5 hk e1 hg4 HN1 HPO HW5 zf
   subst hw5
   go_wp2_with fail
   refine bodyPost_ret (v := .agg #[.int .i64 2, .int .i64 (- x.num), .string ⟨#[]⟩, .slice none 0 0, .int .i64 at0]) (by simp [results, Tryz.results226, go_sem, y0, y1, y2, y3, y4]) rfl ?_
   rw [unhide HPO2]
   exact ⟨_, rfl, unhide HF _ _ _ _ _⟩
  ·
   have gk : (t.kind == 2) = false := by simpa using hk
   have HPO2 : Hid (PO = fun en w' => Ans rb e dp w (fun w2 v x => VE (fun b => w.heap.size ≤ b) w2 v x) (.ok (opE [45] (.mk 2 0 [] [] at0) x) l2 i2) en w') := by
    have := unhide HPO
    rw [Rs.map, if_neg hk] at this
    exact this
   have hopr := operator_any (w := w5) (S := fun b => w.heap.size < b) [45] (x := .mk 2 0 [] [] at0) (y := x) (exS_leaf _ w5 2 0 at0 []) (exS_ok.mono _ _ _ _ _ hX5 (fun b _ hs => by omega)) ⟨_, _, _, rfl⟩ ⟨_, _, _, rfl⟩ (fun b hb => by omega)
   have K5 := hide (And.intro k5 (And.intro hR5 q5))
   clear hX hR4 k4 k3 q3 s3 hs4 hw5 b5 n5 hX5 q5 s5 k5 hR5 hk hg4 HN1 HPO
   go_wp2_with fail
   rw [← unhide HW5]
   clear HW5 hxb
   go_wp2_with fail
   refine hopr.mono ?_
   clear hopr
   rintro en w6 ⟨_, rfl, ⟨va, vc, rfl⟩, hO6, b6⟩
   obtain ⟨k5, hR5, q5⟩ := unhide K5
   obtain ⟨y0, y1, y2, y3, y4, yf⟩ := ex5 ((b6.block _ (lt_hp q5)).trans q5)
   have HF := hide (ve_store (x := opE [45] (.mk 2 0 [] [] at0) x) (gb := w.heap.size) hO6 (fun b hb => ⟨by omega, by omega⟩) (hR5.later b6) (k5.trans (Kp.of_below b6)) (Nat.le_refl _) hrb)
   clear hO6 b6 k5 hR5 q5
   go_wp2_with fail
   refine bodyPost_ret (v := .agg #[.int .i64 5, .int .i64 0, str [45], .slice va 2 vc, .int .i64 at0]) (by simp [results, Tryz.results226, go_sem, y0, y1, y2, y3, y4, Ex.at_]) rfl ?_
   rw [unhide HPO2]
   exact ⟨_, rfl, unhide HF _ _ _ _ _⟩
end Go.Proofs.YtdjehbdpcdikkaaGreatDoor

namespace Go.Proofs.YtdjehbdpcdikkaaGreatDoor
open Go.RowKit Go.Maps

/-- An expression as a part of a list. -/
theorem partE_of {rb e dp : Nat} {E : Pr Ex} (h : OpC 185 rb e dp E) : PartE PE rb e dp E := fun w l it hR => by
 refine (h w l it hR).mono ?_
 intro en w' ha
 cases hq : E l it with
 | bad why at0 l2 => rw [hq] at ha; exact ha
 | ok x l2 i2 =>
  rw [hq] at ha
  obtain ⟨v, e1, ⟨xv, e2, ⟨a, n, c, e3⟩, hX⟩, h3, h4⟩ := ha
  subst e3
  exact ⟨v, e1, ⟨_, _, _, _, _, e2, fun c hc => by
   simp only [List.mem_cons, List.not_mem_nil, or_false] at hc
   rcases hc with rfl | rfl | rfl | rfl | rfl <;> rfl, hX⟩, h3, h4⟩

set_option maxRecDepth 100000 in
set_option maxHeartbeats 4000000 in
theorem signed_any {rb e dp : Nat} {E F : Pr Ex} (hE : OpC 185 rb e dp E) (hsE : Shr E) (hF : OpC 211 rb e dp F) (hnum : ∀ l it x l2 i2, (ahd e 0 l).kind = 2 → F l it = .ok x l2 i2 → x.num = (ahd e 0 l).num) {w : World} {l : List Tok} {it : Nat} (h : Rd rb e w l it dp) :
  Calls Tryz.prog 219 #[.pointer (some ⟨rb, 0, none⟩)] w fun en w' => Ans rb e dp w (fun w2 v x => VE (fun b => w.heap.size ≤ b) w2 v x) (signed e E F l it) en w' := by
 obtain ⟨w1, hw1⟩ : ∃ w1, w1 = w.alloc exZ := ⟨_, rfl⟩
 have b1 : Below w.heap.size w w1 := by rw [hw1]; exact (Below.refl _ w).alloc (Nat.le_refl _) _
 have q1 : w1.heap[w.heap.size]? = some exZ := by rw [hw1]; exact heap_alloc_new w _
 have s1 : w1.heap.size = w.heap.size + 1 := by rw [hw1]; simp
 have ha := ahead_any (h.later b1) 0
 unfold tokV at ha
 have hrb := h.lt
 obtain ⟨PO, hPO⟩ : ∃ PO : Ending → World → Prop, PO = fun en w' => Ans rb e dp w (fun w2 v x => VE (fun b => w.heap.size ≤ b) w2 v x) (signed e E F l it) en w' := ⟨_, rfl⟩
 rw [← hPO]
 have HW1 : Hid (w1 = w.alloc (.cells #[.int .i64 0, .int .i64 0, .string ⟨#[]⟩, .slice none 0 0, .int .i64 0] 90)) := hw1
 have HH := hide (And.intro h (And.intro b1 (And.intro q1 s1)))
 have HPO := hide hPO
 have HP := hide (And.intro hE (And.intro hsE (And.intro hF hnum)))
 obtain ⟨t, ht⟩ : ∃ t, t = ahd e 0 l := ⟨_, rfl⟩
 rw [← ht] at ha
 have hsg : Hid (signed e E F l it = (choose e [[45], [40], [36]] l it).bind fun s l2 i => if s = [45] then minP e F t.at_ l2 i else if s = [40] then (E l2 i).bind fun x l i => (want e [41] l i).map fun _ => x else (wordQ e l2 i).bind fun w l3 i => (encl e [40] [41] E l3 i).map fun ks => .mk 6 0 w ks t.at_) := by rw [ht]; rfl
 generalize signed e E F l it = sr at HPO hsg
 clear h b1 q1 s1 hw1 hPO hE hsE hF hnum ht
 go_enter Tryz.func219, Tryz.ntmps219
 go_wp2_with fail
 rw [← unhide HW1]
 refine ha.mono ?_
 clear ha
 rintro en w2 ⟨rfl, b2⟩
 obtain ⟨h, b1, q1, s1⟩ := unhide HH
 have hs2 := b2.size
 obtain ⟨w3, hw3⟩ : ∃ w3, w3 = w2.alloc (.cells #[.string ⟨#[45]⟩, .string ⟨#[40]⟩, .string ⟨#[36]⟩] 9) := ⟨_, rfl⟩
 have b3 : Below w.heap.size w w3 := by rw [hw3]; exact (b1.trans (b2.mono (by omega))).alloc (by omega) _
 have n3 : w3.heap[w2.heap.size]? = some (.cells #[.string ⟨#[45]⟩, .string ⟨#[40]⟩, .string ⟨#[36]⟩] 9 (0, 0)) := by rw [hw3]; exact heap_alloc_new w2 _
 have q3 : w3.heap[w.heap.size]? = some exZ := by rw [hw3, Below.heap_alloc _ _ _ (by omega)]; exact (b2.block _ (by omega)).trans q1
 have s3 : w3.heap.size = w2.heap.size + 1 := by rw [hw3]; simp
 have hsv : SgAt rb w3 (.slice (some ⟨w2.heap.size, 0, none⟩) 3 3) [[45], [40], [36]] := by
  refine ⟨w2.heap.size, 0, 3, rfl, by omega, by omega, fun j x hx => ?_⟩
  rw [cell_hp n3]
  match j, hx with
  | 0, hx => simp at hx; subst hx; rfl
  | 1, hx => simp at hx; subst hx; rfl
  | 2, hx => simp at hx; subst hx; rfl
 have hc := choose_any (h.later b3) _ _ hsv (by decide) (by decide)
 have HW3 := hide hw3
 have K3 := hide (And.intro (Kp.of_below (rb := rb) b3) (And.intro q3 (by omega : w.heap.size + 1 ≤ w3.heap.size)))
 clear h b1 q1 s1 hs2 b2 b3 n3 q3 s3 hw3 HH hsv
 go_wp2_with fail
 rename_i hK
 refine hK _ _ ?_
 clear hK
 cases hq : choose e [[45], [40], [36]] l it with
 | bad why at1 l2 =>
  rw [hq] at hc hsg
  rw [unhide hsg] at HPO
  clear hq hsg
  go_wp2_with fail
  rw [← unhide HW3]
  refine hc.mono ?_
  clear hc
  rintro en w4 ⟨rfl, k4⟩
  have H4 := hide ((unhide K3).1.trans k4)
  clear k4
  go_wp2_with fail
  refine ⟨rfl, ?_⟩
  rw [unhide HPO]
  exact ⟨rfl, unhide H4⟩
 | ok s l2 i2 =>
  rw [hq] at hc hsg
  clear hq
  go_wp2_with fail
  rw [← unhide HW3]
  refine hc.mono ?_
  clear hc
  rintro en w4 ⟨_, rfl, rfl, hR4, k4⟩
  obtain ⟨k3, q3, s3⟩ := unhide K3
  have hs4 := k4.size
  have k04 := k3.trans k4
  have q4 := k4.keep q3 (by omega)
  have hsz : w.heap.size + 1 ≤ w4.heap.size := by omega
  clear K3 HW3 k3 q3 s3 hs4 k4
  by_cases c1 : s = [45]
  ·
   have g1 : (s == [45]) = true := by simpa using c1
   have hE1 : sr = minP e F t.at_ l2 i2 := by rw [unhide hsg]; exact if_pos c1
   rw [hE1] at HPO
   have hm := minus_any (unhide HP).2.2.1 (unhide HP).2.2.2 hR4 t.at_
   have K4 := hide (And.intro k04 (And.intro q4 hsz))
   clear c1 hE1 hsg hR4 k04 q4 hsz
   cases hq : minP e F t.at_ l2 i2 with
   | bad why at1 l3 =>
    rw [hq] at hm HPO
    clear hq
    go_wp2_with fail
    refine hm.mono ?_
    clear hm
    rintro en w5 ⟨rfl, k5⟩
    have H5 := hide ((unhide K4).1.trans k5)
    clear k5
    go_wp2_with fail
    refine ⟨rfl, ?_⟩
    rw [unhide HPO]
    exact ⟨rfl, unhide H5⟩
   | ok x l3 i3 =>
    rw [hq] at hm HPO
    clear hq
    go_wp2_with fail
    refine hm.mono ?_
    clear hm
    rintro en w5 ⟨_, rfl, ⟨_, rfl, ⟨xa, xn, xc, rfl⟩, hX⟩, hR5, k5⟩
    obtain ⟨k4, q4, hsz⟩ := unhide K4
    obtain ⟨y0, y1, y2, y3, y4, yf⟩ := ex5 (k5.keep q4 (by omega))
    have HF := hide (ve_store (gb := w.heap.size) hX (fun b hb => ⟨by omega, by omega⟩) hR5 (k4.trans k5) (Nat.le_refl _) hrb)
    clear hX hR5 k5 k4 q4 hsz
    go_wp2_with fail
    refine bodyPost_ret (v := .agg #[.int .i64 x.kind, .int .i64 x.num, str x.txt, .slice xa xn xc, .int .i64 x.at_]) (by simp [results, Tryz.results219, go_sem, y0, y1, y2, y3, y4]) rfl ?_
    rw [unhide HPO]
    exact ⟨_, rfl, unhide HF _ _ _ _ _⟩
  ·
   have g1 : (s == [45]) = false := by simpa using c1
   by_cases c2 : s = [40]
   ·
    have g2 : (s == [40]) = true := by simpa using c2
    have hE1 : sr = (E l2 i2).bind fun x l i => (want e [41] l i).map fun _ => x := by rw [unhide hsg]; exact (if_neg c1).trans (if_pos c2)
    rw [hE1] at HPO
    have hm := (unhide HP).1 w4 l2 i2 hR4
    have K4 := hide (And.intro k04 (And.intro q4 hsz))
    clear c1 c2 hE1 hsg hR4 k04 q4 hsz
    cases hq : E l2 i2 with
    | bad why at1 l3 =>
     rw [hq] at hm HPO
     clear hq
     go_wp2_with fail
     refine hm.mono ?_
     clear hm
     rintro en w5 ⟨rfl, k5⟩
     have H5 := hide ((unhide K4).1.trans k5)
     clear k5
     go_wp2_with fail
     refine ⟨rfl, ?_⟩
     rw [unhide HPO]
     exact ⟨rfl, unhide H5⟩
    | ok x l3 i3 =>
     rw [hq] at hm HPO
     clear hq
     go_wp2_with fail
     refine hm.mono ?_
     clear hm
     rintro en w5 ⟨_, rfl, ⟨_, rfl, ⟨xa, xn, xc, rfl⟩, hX⟩, hR5, k5⟩
     obtain ⟨k4, q4, hsz⟩ := unhide K4
     have hs5 := k5.size
     obtain ⟨w6, hw6⟩ : ∃ w6, w6 = w5.alloc (.cells #[.int .i64 x.kind, .int .i64 x.num, str x.txt, .slice xa xn xc, .int .i64 x.at_] 90) := ⟨_, rfl⟩
     have b6 : Below w5.heap.size w5 w6 := by rw [hw6]; exact (Below.refl _ w5).alloc (Nat.le_refl _) _
     have n6 : w6.heap[w5.heap.size]? = some (.cells #[.int .i64 x.kind, .int .i64 x.num, str x.txt, .slice xa xn xc, .int .i64 x.at_] 90 (0, 0)) := by rw [hw6]; exact heap_alloc_new w5 _
     have hX6 := exS_ok.same _ _ w6 _ _ hX b6.size (fun b _ hl => b6.block b hl)
     have q6 : w6.heap[w.heap.size]? = some exZ := (b6.block _ (by omega)).trans (k5.keep q4 (by omega))
     have k6 : Kp rb w w6 := (k4.trans k5).trans (Kp.of_below b6)
     have hwt := want_any (hR5.later b6) [41] (by decide)
     have HW6 := hide hw6
     have K6 := hide (And.intro k6 (And.intro n6 (And.intro hX6 (And.intro q6 (And.intro hsz (by omega : w.heap.size + 1 ≤ w5.heap.size))))))
     generalize hxb : w5.heap.size = xb at K6
     clear hX hR5 k5 k4 q4 hsz hs5 hw6 b6 n6 hX6 q6 k6 K4
     cases hq : want e [41] l3 i3 with
     | bad why at1 l4 =>
      have HPO2 : Hid (PO = fun en w' => Ans rb e dp w (fun w2 v x => VE (fun b => w.heap.size ≤ b) w2 v x) (.bad why at1 l4) en w') := by
       have := unhide HPO
       rw [Rs.bind, hq] at this
       exact this
      rw [hq] at hwt
      clear hq HPO
      go_wp2_with fail
      rw [← unhide HW6]
      refine hwt.mono ?_
      clear hwt
      rintro en w7 ⟨rfl, k7⟩
      have H7 := hide ((unhide K6).1.trans k7)
      clear k7
      go_wp2_with fail
      refine ⟨rfl, ?_⟩
      rw [unhide HPO2]
      exact ⟨rfl, unhide H7⟩
     | ok u l4 i4 =>
      have HPO2 : Hid (PO = fun en w' => Ans rb e dp w (fun w2 v x => VE (fun b => w.heap.size ≤ b) w2 v x) (.ok x l4 i4) en w') := by
       have := unhide HPO
       rw [Rs.bind, hq] at this
       exact this
      rw [hq] at hwt
      clear hq HPO
      go_wp2_with fail
      rw [← unhide HW6]
      refine hwt.mono ?_
      clear hwt
      rintro en w7 ⟨_, rfl, rfl, hR7, k7⟩
      obtain ⟨k6, n6, hX6, q6, g3, g4⟩ := unhide K6
      obtain ⟨z0, z1, z2, z3, z4, zf⟩ := ex5 (k7.keep n6 (by omega))
      have hX7 := exS_ok.same _ _ w7 _ _ hX6 k7.size (fun b hs hl => k7.block b hl (by omega))
      obtain ⟨y0, y1, y2, y3, y4, yf⟩ := ex5 (k7.keep q6 (by omega))
      have HF := hide (ve_store (gb := w.heap.size) hX7 (fun b hb => ⟨by omega, by omega⟩) hR7 (k6.trans k7) (Nat.le_refl _) hrb)
      clear hR7 k7 k6 n6 hX6 q6 g3 g4 hX7 zf HW6 hxb
      go_wp2_with fail
      refine bodyPost_ret (v := .agg #[.int .i64 x.kind, .int .i64 x.num, str x.txt, .slice xa xn xc, .int .i64 x.at_]) (by simp [results, Tryz.results219, go_sem, y0, y1, y2, y3, y4]) rfl ?_
      rw [unhide HPO2]
      exact ⟨_, rfl, unhide HF _ _ _ _ _⟩
   ·
    have g2 : (s == [40]) = false := by simpa using c2
    have hE1 : sr = (wordQ e l2 i2).bind fun w l3 i => (encl e [40] [41] E l3 i).map fun ks => .mk 6 0 w ks t.at_ := by rw [unhide hsg]; exact (if_neg c1).trans (if_neg c2)
    rw [hE1] at HPO
    have hm := wordq_any hR4
    have K4 := hide (And.intro k04 (And.intro q4 hsz))
    clear c1 c2 hE1 hsg hR4 k04 q4 hsz
    cases hq : wordQ e l2 i2 with
    | bad why at1 l3 =>
     rw [hq] at hm HPO
     clear hq
     go_wp2_with fail
     refine hm.mono ?_
     clear hm
     rintro en w5 ⟨rfl, k5⟩
     have H5 := hide ((unhide K4).1.trans k5)
     clear k5
     go_wp2_with fail
     refine ⟨rfl, ?_⟩
     rw [unhide HPO]
     exact ⟨rfl, unhide H5⟩
    | ok wd l3 i3 =>
     rw [hq] at hm HPO
     clear hq
     go_wp2_with fail
     refine hm.mono ?_
     clear hm
     rintro en w5 ⟨_, rfl, rfl, hR5, k5⟩
     obtain ⟨k4, q4, hsz⟩ := unhide K4
     have hs5 := k5.size
     obtain ⟨w6, hw6⟩ : ∃ w6, w6 = w5.alloc (.cells #[.int .i64 6, .int .i64 0, str wd, .slice none 0 0, .int .i64 (t.at_ : Int)] 90) := ⟨_, rfl⟩
     have b6 : Below w5.heap.size w5 w6 := by rw [hw6]; exact (Below.refl _ w5).alloc (Nat.le_refl _) _
     have n6 : w6.heap[w5.heap.size]? = some (.cells #[.int .i64 6, .int .i64 0, str wd, .slice none 0 0, .int .i64 (t.at_ : Int)] 90 (0, 0)) := by rw [hw6]; exact heap_alloc_new w5 _
     have q6 : w6.heap[w.heap.size]? = some exZ := (b6.block _ (by omega)).trans (k5.keep q4 (by omega))
     have s6 : w6.heap.size = w5.heap.size + 1 := by rw [hw6]; simp
     have k6 : Kp rb w w6 := (k4.trans k5).trans (Kp.of_below b6)
     have hen := enclE_any PE exS_ok (partE_of (unhide HP).1) (unhide HP).2.1 (hR5.later b6) [40] [41] (by decide) (by decide)
     have HW6 := hide hw6
     have K6 := hide (And.intro k6 (And.intro n6 (And.intro q6 (And.intro (by omega : w.heap.size + 1 ≤ w5.heap.size) s6))))
     generalize hxb : w5.heap.size = xb at K6
     clear hR5 k5 k4 q4 hsz hs5 hw6 b6 n6 q6 k6 K4 s6
     cases hq : encl e [40] [41] E l3 i3 with
     | bad why at1 l4 =>
      have HPO2 : Hid (PO = fun en w' => Ans rb e dp w (fun w2 v x => VE (fun b => w.heap.size ≤ b) w2 v x) (.bad why at1 l4) en w') := by
       have := unhide HPO
       rw [Rs.bind, hq] at this
       exact this
      rw [hq] at hen
      clear hq HPO
      go_wp2_with fail
      rw [← unhide HW6]
      refine hen.mono ?_
      clear hen
      rintro en w7 ⟨rfl, k7⟩
      have H7 := hide ((unhide K6).1.trans k7)
      clear k7
      go_wp2_with fail
      refine ⟨rfl, ?_⟩
      rw [unhide HPO2]
      exact ⟨rfl, unhide H7⟩
     | ok ks l4 i4 =>
      have HPO2 : Hid (PO = fun en w' => Ans rb e dp w (fun w2 v x => VE (fun b => w.heap.size ≤ b) w2 v x) (.ok (.mk 6 0 wd ks t.at_) l4 i4) en w') := by
       have := unhide HPO
       rw [Rs.bind, hq] at this
       exact this
      rw [hq] at hen
      clear hq HPO
      go_wp2_with fail
      rw [← unhide HW6]
      refine hen.mono ?_
      clear hen
      rintro en w7 ⟨_, rfl, hL, hR7, k7⟩
      obtain ⟨ka, kc, _, ev, _⟩ := id hL
      subst ev
      obtain ⟨k6, n6, q6, g3, s6⟩ := unhide K6
      have n7 := k7.keep n6 (by omega)
      have q7 := k7.keep q6 (by omega)
      have hne8 : w.heap.size ≠ xb := by omega
      obtain ⟨w8, hw8⟩ : ∃ w8, w8 = w7.setCell ⟨xb, 3, none⟩ (.slice ka ks.length kc) := ⟨_, rfl⟩
      have n8 : w8.heap[xb]? = some (.cells #[.int .i64 6, .int .i64 0, str wd, .slice ka ks.length kc, .int .i64 (t.at_ : Int)] 90 (0, 0)) := by rw [hw8]; exact (set_hp n7 3 _).trans rfl
      have q8 : w8.heap[w.heap.size]? = some exZ := by rw [hw8, Below.heap_setCell _ _ _ _ hne8]; exact q7
      have k8 : Kp rb w w8 := by rw [hw8]; exact (k6.trans k7).set2 (by omega)
      have hR8 : Rd rb e w8 l4 i4 dp := by rw [hw8]; exact hR7.set2 (by omega)
      have hL8 : LsAt PE 5 (fun b => w6.heap.size ≤ b) w8 (.slice ka ks.length kc) ks := by
       refine hL.same exS_ok (by rw [hw8]; simp [World.setCell]) (fun b hb hl => ?_)
       have hb' : w6.heap.size ≤ b := hb
       have hn : b ≠ xb := by omega
       rw [hw8, Below.heap_setCell _ _ _ _ hn]
      obtain ⟨x0, x1, x2, x3, x4, xf⟩ := ex5 n7
      obtain ⟨z0, z1, z2, z3, z4, zf⟩ := ex5 n8
      obtain ⟨y0, y1, y2, y3, y4, yf⟩ := ex5 q8
      have HF := hide (ve_store (x := .mk 6 0 wd ks t.at_) (gb := w.heap.size) (exS_of hL8) (fun b hb => ⟨by omega, by omega⟩) hR8 k8 (Nat.le_refl _) hrb)
      clear hR7 k7 k6 n6 q6 g3 n7 q7 n8 q8 k8 hR8 hL8 hL HW6 hxb x0 x1 x2 x4 zf s6 hne8
      subst hw8
      go_wp2_with fail
      refine bodyPost_ret (v := .agg #[.int .i64 6, .int .i64 0, str wd, .slice ka ks.length kc, .int .i64 t.at_]) (by simp [results, Tryz.results219, go_sem, y0, y1, y2, y3, y4]) rfl ?_
      rw [unhide HPO2]
      exact ⟨_, rfl, unhide HF _ _ _ _ _⟩
end Go.Proofs.YtdjehbdpcdikkaaGreatDoor
