/- ShowBack. -/
import Derived.Test.YtccehgfecaamoaaGreatDoorQb34
import Derived.Test.YtccehgfecaamoaaGreatDoorQb40
set_option maxRecDepth 100000
set_option maxHeartbeats 32000000
namespace Go.Proofs.YtccehgfecaamoaaGreatDoor
section
open Go.RowKit Go.Maps
theorem Qoi (s : ByteArray) (hs : s.size ≤ 140737488355328) (w : World) (hE : Env w) (ht : Tbl w.heap.size w) : Calls Tryz.prog 3 #[.string s] w fun en w' => en = .returned (.bool true) ∧ Below w.heap.size w w' := by
 have hps := Qdw s (by omega) w hE
 have HE := hide (Ya hE ht)
 clear hE ht
 go_enter Tryz.func3, Tryz.ntmps3
 go_wp2_with fail
 refine hps.mono ?_
 clear hps
 intro en w2 ha
 cases hr : parseP s.data.toList with
 | bad why at_ l =>
  rw [hr] at ha
  obtain ⟨rfl, b2⟩ := ha
  have gw : (why == 0) = false := by simpa using Qef hr
  have gn : ¬ why = 0 := Qef hr
  have b3 : Below w.heap.size w ((w2.alloc (.cells #[.slice none 0 0, .slice none 0 0, .slice none 0 0, .slice none 0 0, .slice none 0 0] 28)).alloc (.cells #[.int .i64 why, .int .i64 at_] 31)) := (b2.alloc b2.size _).alloc (by have := b2.size; simp; omega) _
  have hal := Qfv _ ((Qa HE).1.later b3) (((Qa HE).2.below b3).more b3.size)
  have HB := hide b3
  clear b2 b3 hr
  go_wp2_with fail
  refine hal.mono ?_
  clear hal
  rintro en w4 ⟨rfl, b4⟩
  have HB4 := hide ((Qa HB).trans (b4.mono (Qa HB).size))
  clear b4
  go_wp2_with fail
  go_ret
  exact ⟨rfl, Qa HB4⟩
 | ok p l i =>
  rw [hr] at ha
  obtain ⟨v, rfl, ⟨d0, k0, f0, d1, k1, f1, d2, k2, f2, d3, k3, f3, d4, k4, f4, rfl, hQ⟩, b2⟩ := ha
  obtain ⟨w3, hw3⟩ : ∃ w3, w3 = (w2.alloc (.cells #[.slice d0 k0 f0, .slice d1 k1 f1, .slice d2 k2 f2, .slice d3 k3 f3, .slice d4 k4 f4] 28)).alloc (.cells #[.int .i64 0, .int .i64 0] 31) := ⟨_, rfl⟩
  have b3 : Below w2.heap.size w2 w3 := by rw [hw3]; exact ((Below.refl _ w2).alloc (Nat.le_refl _) _).alloc (by simp) _
  have m3 : w3.heap[w2.heap.size]? = some (.cells #[.slice d0 k0 f0, .slice d1 k1 f1, .slice d2 k2 f2, .slice d3 k3 f3, .slice d4 k4 f4] 28 (0, 0)) := by
   rw [hw3, Below.heap_alloc _ _ _ (by simp)]; exact heap_alloc_new w2 _
  have q3 := Qao.mono _ (fun _ => True) _ _ _ (Qao.same _ _ w3 _ _ hQ b3.size (fun b _ hb => b3.block b hb)) (fun _ _ _ => trivial)
  have bw3 := b2.trans (b3.mono b2.size)
  obtain ⟨hwf, _⟩ := Qlr hr
  have hdp := Jaw hr
  have hsh := Qsd p (Qrw hr) q3 ((Qa HE).1.later bw3) (((Qa HE).2.below bw3).more bw3.size)
  have herr := Jbg p
  have hdeep := Qym hr
  rw [hw3] at hsh
  have HK := hide (Ya bw3 (Ya m3 (Ya q3 (Ya hw3 (Ya hwf hdp)))))
  obtain ⟨t, ht⟩ : ∃ t, (showP p).1 = t := ⟨_, rfl⟩
  obtain ⟨e, he⟩ : ∃ e, (showP p).2 = e := ⟨_, rfl⟩
  rw [ht, he] at hsh
  rw [he] at herr hdeep
  have HT := hide (Ya ht (Ya he hdeep))
  have HR := hide hr
  clear b2 b3 m3 q3 bw3 hwf hdp hdeep hw3 ht he hr hQ
  go_wp2_with fail
  refine hsh.mono ?_
  clear hsh
  rintro en w4 ⟨rfl, b4⟩
  obtain ⟨bw3, m3, q3, hw3, hwf, hdp⟩ := Qa HK
  rw [← hw3] at b4
  have m4 := (b4.block _ (Qag m3)).trans m3
  have q4 := Qao.same _ _ w4 _ _ (Qao.mono _ (fun b => b < w3.heap.size) _ _ _ q3 (fun b hb _ => hb)) b4.size (fun b hb _ => b4.block b hb)
  have bw4 := bw3.trans (b4.mono bw3.size)
  have hkp := kp_of hwf (by omega) (by omega) _ w4 _ _ _ _ _ _ _ _ _ _ _ _ _ _ _ q4
  obtain ⟨x0, x1, x2, x3, x4⟩ := cl5p m4
  obtain ⟨cc, hcc⟩ : ∃ cc, (dpP p).1 = cc := ⟨_, rfl⟩
  obtain ⟨cd, hcd⟩ : ∃ cd, (dpP p).2 = cd := ⟨_, rfl⟩
  rw [hcc, hcd] at hkp
  have hd := (Qa HT).2.2
  rw [hcc, hcd] at hd
  have HK4 := hide (Ya bw4 (Ya m4 q4))
  clear bw3 m3 q3 hw3 hwf hdp b4 m4 q4 bw4 hcc hcd HK
  go_wp2_with fail
  refine hkp.mono ?_
  clear hkp x0 x1 x2 x3 x4
  rintro en w5 ⟨rfl, b5⟩
  obtain ⟨bw4, m4, q4⟩ := Qa HK4
  have m5 := (b5.block _ (Qag m4)).trans m4
  have q5 := Qao.same _ _ w5 _ _ (Qao.mono _ (fun b => b < w4.heap.size) _ _ _ q4 (fun b hb _ => hb)) b5.size (fun b hb _ => b5.block b hb)
  have bw5 := bw4.trans (b5.mono bw4.size)
  have hal := Qfv w5 ((Qa HE).1.later bw5) (((Qa HE).2.below bw5).more bw5.size)
  have HB5 := hide (Ya bw5 (Ya m5 q5))
  clear bw4 m4 q4 m5 q5 bw5 b5 HK4
  rcases herr with rfl | rfl | rfl
  ·
   obtain ⟨ht, he, _⟩ := Qa HT
   obtain ⟨g1, g2, q, l2, i2, g3, g4⟩ := Qyn he
   obtain rfl : t = pgT p := ht.symm.trans g1
   obtain ⟨bw5, m5, q5⟩ := Qa HB5
   have hp2 := Qdw ⟨(pgT p).toArray⟩ (by simp [ByteArray.size]; omega) w5 ((Qa HE).1.later bw5)
   rw [show (⟨(pgT p).toArray⟩ : ByteArray).data.toList = pgT p by simp, show (Value.string ⟨(pgT p).toArray⟩) = str (pgT p) from rfl, g3] at hp2
   have HG := hide g4
   clear hal ht he g1 g2 g3 g4 bw5 m5 q5 hd
   go_wp2_with fail
   refine hp2.mono ?_
   clear hp2
   rintro en w6 ⟨v, rfl, ⟨e0, j0, o0, e1, j1, o1, e2, j2, o2, e3, j3, o3, e4, j4, o4, rfl, hQ6⟩, b6⟩
   obtain ⟨bw5, m5, q5⟩ := Qa HB5
   obtain ⟨w7, hw7⟩ : ∃ w7, w7 = (w6.alloc (.cells #[.slice e0 j0 o0, .slice e1 j1 o1, .slice e2 j2 o2, .slice e3 j3 o3, .slice e4 j4 o4] 28)).alloc (.cells #[.int .i64 0, .int .i64 0] 31) := ⟨_, rfl⟩
   have b7 : Below w6.heap.size w6 w7 := by rw [hw7]; exact ((Below.refl _ w6).alloc (Nat.le_refl _) _).alloc (by simp) _
   have b57 := b6.trans (b7.mono b6.size)
   have m7 := (b57.block _ (Qag m5)).trans m5
   have q7 := Qao.mono _ (fun _ => True) _ _ _ (Qao.same _ _ w7 _ _ hQ6 b7.size (fun b _ hb => b7.block b hb)) (fun _ _ _ => trivial)
   have p7 := Qao.mono _ (fun _ => True) _ _ _ (Qao.same _ _ w7 _ _ (Qao.mono _ (fun b => b < w5.heap.size) _ _ _ q5 (fun b hb _ => hb)) b57.size (fun b hb _ => b57.block b hb)) (fun _ _ _ => trivial)
   have bw7 := bw5.trans (b57.mono bw5.size)
   have hsm := Qiu p q _ w7 _ _ _ _ _ _ _ _ _ _ p7 q7
   rw [Qmq p q, Qa HG] at hsm
   obtain ⟨x0, x1, x2, x3, x4⟩ := cl5p m7
   rw [hw7] at hsm x0 x1 x2 x3 x4
   have HB7 := hide (Ya bw7 hw7)
   clear bw5 m5 q5 hw7 b7 b57 m7 q7 p7 bw7 b6 hQ6
   go_wp2_with fail
   refine hsm.mono ?_
   clear hsm x0 x1 x2 x3 x4
   rintro en w8 ⟨rfl, b8⟩
   obtain ⟨bw7, hw7⟩ := Qa HB7
   rw [← hw7] at b8
   have bw8 := bw7.trans (b8.mono bw7.size)
   have hal := Qfv w8 ((Qa HE).1.later bw8) (((Qa HE).2.below bw8).more bw8.size)
   have HB8 := hide bw8
   clear bw7 hw7 b8 bw8
   go_wp2_with fail
   refine hal.mono ?_
   clear hal
   rintro en w9 ⟨rfl, b9⟩
   have HB9 := hide ((Qa HB8).trans (b9.mono (Qa HB8).size))
   clear b9
   go_wp2_with fail
   go_ret
   exact ⟨rfl, Qa HB9⟩
  ·
   rcases hd rfl with h4 | h8
   ·
    have g4 : (4 : Int) < (cc : Int) := by omega
    clear hd h4
    go_wp2_with fail
    all_goals
     refine hal.mono ?_
     clear hal
     rintro en w9 ⟨rfl, b9⟩
     have HB9 := hide ((Qa HB5).1.trans (b9.mono (Qa HB5).1.size))
     clear b9
     go_wp2_with fail
     go_ret
     exact ⟨rfl, Qa HB9⟩
   have g8 : (8 : Int) < (cd : Int) := by omega
   clear hd h8
   by_cases h4 : 4 < cc
   ·
    have g4 : (4 : Int) < (cc : Int) := by omega
    go_wp2_with fail
    refine hal.mono ?_
    clear hal
    rintro en w9 ⟨rfl, b9⟩
    have HB9 := hide ((Qa HB5).1.trans (b9.mono (Qa HB5).1.size))
    clear b9
    go_wp2_with fail
    go_ret
    exact ⟨rfl, Qa HB9⟩
   have g4 : ¬ ((4 : Int) < (cc : Int)) := by omega
   go_wp2_with fail
   refine hal.mono ?_
   clear hal
   rintro en w9 ⟨rfl, b9⟩
   have HB9 := hide ((Qa HB5).1.trans (b9.mono (Qa HB5).1.size))
   clear b9
   go_wp2_with fail
   go_ret
   exact ⟨rfl, Qa HB9⟩
  clear hd
  go_wp2_with fail
  refine hal.mono ?_
  clear hal
  rintro en w9 ⟨rfl, b9⟩
  have HB9 := hide ((Qa HB5).1.trans (b9.mono (Qa HB5).1.size))
  clear b9
  go_wp2_with fail
  go_ret
  exact ⟨rfl, Qa HB9⟩
end
end Go.Proofs.YtccehgfecaamoaaGreatDoor
