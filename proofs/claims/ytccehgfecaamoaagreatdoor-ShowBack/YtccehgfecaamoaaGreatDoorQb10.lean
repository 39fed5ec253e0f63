/- syn: signed. syn: factor. syn: expressions of any depth. -/
import Derived.Test.YtccehgfecaamoaaGreatDoorQb09
set_option maxRecDepth 100000
set_option maxHeartbeats 32000000
namespace Go.Proofs.YtccehgfecaamoaaGreatDoor
section
open Go.RowKit Go.Maps
theorem Qrx {rb e dp : Nat} {E : Pr Ex} (h : OpC 144 rb e dp E) : PartE PE rb e dp E := fun w l it hR => by
 refine (h w l it hR).mono ?_
 intro en w' ha
 cases hq : E l it with
 | bad why at0 l2 => rw [hq] at ha; exact ha
 | ok x l2 i2 =>
  rw [hq] at ha
  obtain ⟨v, e1, ⟨xv, e2, ⟨a, n, c, e3⟩, hX⟩, h3, h4⟩ := ha
  subst e3
  exact ⟨v, e1, ⟨_, _, _, _, _, e2, fun c hc => by
   simp only [List.mem_cons, List.not_mem_nil, or_false] at hc
   rcases hc with rfl | rfl | rfl | rfl | rfl <;> rfl, hX⟩, h3, h4⟩

theorem Qts {rb e dp : Nat} {E F : Pr Ex} (hE : OpC 144 rb e dp E) (hsE : Shr E) (hF : OpC 169 rb e dp F) (hnum : ∀ l it x l2 i2, (ahd e 0 l).kind = 2 → F l it = .ok x l2 i2 → x.num = (ahd e 0 l).num) {w : World} {l : List Tok} {it : Nat} (h : Rd rb e w l it dp) :
  Calls Tryz.prog 177 #[.pointer (some ⟨rb, 0, none⟩)] w fun en w' => Ans rb e dp w (fun w2 v x => VE (fun b => w.heap.size ≤ b) w2 v x) (signed e E F l it) en w' := by
 obtain ⟨w1, hw1⟩ : ∃ w1, w1 = w.alloc exZ := ⟨_, rfl⟩
 have b1 : Below w.heap.size w w1 := bnw hw1
 have q1 : w1.heap[w.heap.size]? = some exZ := nnw hw1
 have s1 : w1.heap.size = w.heap.size + 1 := by rw [hw1]; simp
 have ha := Qau (h.later b1) 0
 unfold tokV at ha
 have hrb := h.lt
 obtain ⟨PO, hPO⟩ : ∃ PO : Ending → World → Prop, PO = fun en w' => Ans rb e dp w (fun w2 v x => VE (fun b => w.heap.size ≤ b) w2 v x) (signed e E F l it) en w' := ⟨_, rfl⟩
 rw [← hPO]
 have HW1 : Hid (w1 = w.alloc (.cells #[.int .i64 0, .int .i64 0, .string ⟨#[]⟩, .slice none 0 0, .int .i64 0] 67)) := hw1
 have HH := hide (Ya h (Ya b1 (Ya q1 s1)))
 have HPO := hide hPO
 have HP := hide (Ya hE (Ya hsE (Ya hF hnum)))
 obtain ⟨t, ht⟩ : ∃ t, t = ahd e 0 l := ⟨_, rfl⟩
 rw [← ht] at ha
 have hsg : Hid (signed e E F l it = (choose e [[45], [40], [36]] l it).bind fun s l2 i => if s = [45] then minP e F t.at_ l2 i else if s = [40] then (E l2 i).bind fun x l i => (want e [41] l i).map fun _ => x else (wordQ e l2 i).bind fun w l3 i => (encl e [40] [41] E l3 i).map fun ks => .mk 6 0 w ks t.at_) := by rw [ht]; rfl
 generalize signed e E F l it = sr at HPO hsg
 clear h b1 q1 s1 hw1 hPO hE hsE hF hnum ht
 go_enter Tryz.func177, Tryz.ntmps177
 go_wp2_with fail
 rw [← Qa HW1]
 refine ha.mono ?_
 clear ha
 rintro en w2 ⟨rfl, b2⟩
 obtain ⟨h, b1, q1, s1⟩ := Qa HH
 have hs2 := b2.size
 obtain ⟨w3, hw3⟩ : ∃ w3, w3 = w2.alloc (.cells #[.string ⟨#[45]⟩, .string ⟨#[40]⟩, .string ⟨#[36]⟩] 9) := ⟨_, rfl⟩
 have b3 : Below w.heap.size w w3 := by rw [hw3]; exact (b1.trans (b2.mono (by omega))).alloc (by omega) _
 have n3 : w3.heap[w2.heap.size]? = some (.cells #[.string ⟨#[45]⟩, .string ⟨#[40]⟩, .string ⟨#[36]⟩] 9 (0, 0)) := nnw hw3
 have q3 : w3.heap[w.heap.size]? = some exZ := by rw [hw3, Below.heap_alloc _ _ _ (by omega)]; exact (b2.block _ (by omega)).trans q1
 have s3 : w3.heap.size = w2.heap.size + 1 := by rw [hw3]; simp
 have hsv : SgAt rb w3 (.slice (some ⟨w2.heap.size, 0, none⟩) 3 3) [[45], [40], [36]] := by
  refine ⟨w2.heap.size, 0, 3, rfl, by omega, by omega, fun j x hx => ?_⟩
  rw [Qab n3]
  match j, hx with
  | 0, hx => simp at hx; subst hx; rfl
  | 1, hx => simp at hx; subst hx; rfl
  | 2, hx => simp at hx; subst hx; rfl
 have hc := Qgp (h.later b3) _ _ hsv (by decide) (by decide)
 have HW3 := hide hw3
 have K3 := hide (Ya (Kp.of_below (rb := rb) b3) (Ya q3 (by omega : w.heap.size + 1 ≤ w3.heap.size)))
 clear h b1 q1 s1 hs2 b2 b3 n3 q3 s3 hw3 HH hsv
 go_wp2_with fail
 rename_i hK
 refine hK _ _ ?_
 clear hK
 cases hq : choose e [[45], [40], [36]] l it with
 | bad why at1 l2 =>
  rw [hq] at hc hsg
  rw [Qa hsg] at HPO
  clear hq hsg
  go_wp2_with fail
  rw [← Qa HW3]
  refine hc.mono ?_
  clear hc
  rintro en w4 ⟨rfl, k4⟩
  have H4 := hide ((Qa K3).1.trans k4)
  clear k4
  go_wp2_with fail
  refine ⟨rfl, ?_⟩
  rw [Qa HPO]
  exact ⟨rfl, Qa H4⟩
 | ok s l2 i2 =>
  rw [hq] at hc hsg
  clear hq
  go_wp2_with fail
  rw [← Qa HW3]
  refine hc.mono ?_
  clear hc
  rintro en w4 ⟨_, rfl, rfl, hR4, k4⟩
  obtain ⟨k3, q3, s3⟩ := Qa K3
  have hs4 := k4.size
  have k04 := k3.trans k4
  have q4 := k4.keep q3 (by omega)
  have hsz : w.heap.size + 1 ≤ w4.heap.size := by omega
  clear K3 HW3 k3 q3 s3 hs4 k4
  by_cases c1 : s = [45]
  ·
   have g1 : (s == [45]) = true := by simpa using c1
   have hE1 : sr = minP e F t.at_ l2 i2 := by rw [Qa hsg]; exact if_pos c1
   rw [hE1] at HPO
   have hm := Qxl (Qa HP).2.2.1 (Qa HP).2.2.2 hR4 t.at_
   have K4 := hide (Ya k04 (Ya q4 hsz))
   clear c1 hE1 hsg hR4 k04 q4 hsz
   cases hq : minP e F t.at_ l2 i2 with
   | bad why at1 l3 =>
    rw [hq] at hm HPO
    clear hq
    go_wp2_with fail
    refine hm.mono ?_
    clear hm
    rintro en w5 ⟨rfl, k5⟩
    have H5 := hide ((Qa K4).1.trans k5)
    clear k5
    go_wp2_with fail
    refine ⟨rfl, ?_⟩
    rw [Qa HPO]
    exact ⟨rfl, Qa H5⟩
   | ok x l3 i3 =>
    rw [hq] at hm HPO
    clear hq
    go_wp2_with fail
    refine hm.mono ?_
    clear hm
    rintro en w5 ⟨_, rfl, ⟨_, rfl, ⟨xa, xn, xc, rfl⟩, hX⟩, hR5, k5⟩
    obtain ⟨k4, q4, hsz⟩ := Qa K4
    obtain ⟨y0, y1, y2, y3, y4, yf⟩ := ex5 (k5.keep q4 (by omega))
    have HF := hide (Qcg (gb := w.heap.size) hX (fun b hb => ⟨by omega, by omega⟩) hR5 (k4.trans k5) (Nat.le_refl _) hrb)
    clear hX hR5 k5 k4 q4 hsz
    go_wp2_with fail
    refine bodyPost_ret (v := .agg #[.int .i64 x.kind, .int .i64 x.num, str x.txt, .slice xa xn xc, .int .i64 x.at_]) (by simp [results, Tryz.results177, go_sem, y0, y1, y2, y3, y4]) rfl ?_
    rw [Qa HPO]
    exact ⟨_, rfl, Qa HF _ _ _ _ _⟩
  have g1 : (s == [45]) = false := by simpa using c1
  by_cases c2 : s = [40]
  ·
   have g2 : (s == [40]) = true := by simpa using c2
   have hE1 : sr = (E l2 i2).bind fun x l i => (want e [41] l i).map fun _ => x := by rw [Qa hsg]; exact (if_neg c1).trans (if_pos c2)
   rw [hE1] at HPO
   have hm := (Qa HP).1 w4 l2 i2 hR4
   have K4 := hide (Ya k04 (Ya q4 hsz))
   clear c1 c2 hE1 hsg hR4 k04 q4 hsz
   cases hq : E l2 i2 with
   | bad why at1 l3 =>
    rw [hq] at hm HPO
    clear hq
    go_wp2_with fail
    refine hm.mono ?_
    clear hm
    rintro en w5 ⟨rfl, k5⟩
    have H5 := hide ((Qa K4).1.trans k5)
    clear k5
    go_wp2_with fail
    refine ⟨rfl, ?_⟩
    rw [Qa HPO]
    exact ⟨rfl, Qa H5⟩
   | ok x l3 i3 =>
    rw [hq] at hm HPO
    clear hq
    go_wp2_with fail
    refine hm.mono ?_
    clear hm
    rintro en w5 ⟨_, rfl, ⟨_, rfl, ⟨xa, xn, xc, rfl⟩, hX⟩, hR5, k5⟩
    obtain ⟨k4, q4, hsz⟩ := Qa K4
    have hs5 := k5.size
    obtain ⟨w6, hw6⟩ : ∃ w6, w6 = w5.alloc (.cells #[.int .i64 x.kind, .int .i64 x.num, str x.txt, .slice xa xn xc, .int .i64 x.at_] 67) := ⟨_, rfl⟩
    have b6 : Below w5.heap.size w5 w6 := bnw hw6
    have n6 : w6.heap[w5.heap.size]? = some (.cells #[.int .i64 x.kind, .int .i64 x.num, str x.txt, .slice xa xn xc, .int .i64 x.at_] 67 (0, 0)) := nnw hw6
    have hX6 := Qae.same _ _ w6 _ _ hX b6.size (fun b _ hl => b6.block b hl)
    have q6 : w6.heap[w.heap.size]? = some exZ := (b6.block _ (by omega)).trans (k5.keep q4 (by omega))
    have k6 : Kp rb w w6 := (k4.trans k5).trans (Kp.of_below b6)
    have hwt := Qch (hR5.later b6) [41] (by decide)
    have HW6 := hide hw6
    have K6 := hide (Ya k6 (Ya n6 (Ya hX6 (Ya q6 (Ya hsz (by omega : w.heap.size + 1 ≤ w5.heap.size))))))
    generalize hxb : w5.heap.size = xb at K6
    clear hX hR5 k5 k4 q4 hsz hs5 hw6 b6 n6 hX6 q6 k6 K4
    cases hq : want e [41] l3 i3 with
    | bad why at1 l4 =>
     have HPO2 : Hid (PO = fun en w' => Ans rb e dp w (fun w2 v x => VE (fun b => w.heap.size ≤ b) w2 v x) (.bad why at1 l4) en w') := by
      have := Qa HPO
      rw [Rs.bind, hq] at this
      exact this
     rw [hq] at hwt
     clear hq HPO
     go_wp2_with fail
     rw [← Qa HW6]
     refine hwt.mono ?_
     clear hwt
     rintro en w7 ⟨rfl, k7⟩
     have H7 := hide ((Qa K6).1.trans k7)
     clear k7
     go_wp2_with fail
     refine ⟨rfl, ?_⟩
     rw [Qa HPO2]
     exact ⟨rfl, Qa H7⟩
    | ok u l4 i4 =>
     have HPO2 : Hid (PO = fun en w' => Ans rb e dp w (fun w2 v x => VE (fun b => w.heap.size ≤ b) w2 v x) (.ok x l4 i4) en w') := by
      have := Qa HPO
      rw [Rs.bind, hq] at this
      exact this
     rw [hq] at hwt
     clear hq HPO
     go_wp2_with fail
     rw [← Qa HW6]
     refine hwt.mono ?_
     clear hwt
     rintro en w7 ⟨_, rfl, rfl, hR7, k7⟩
     obtain ⟨k6, n6, hX6, q6, g3, g4⟩ := Qa K6
     obtain ⟨z0, z1, z2, z3, z4, zf⟩ := ex5 (k7.keep n6 (by omega))
     have hX7 := Qae.same _ _ w7 _ _ hX6 k7.size (fun b hs hl => k7.block b hl (by omega))
     obtain ⟨y0, y1, y2, y3, y4, yf⟩ := ex5 (k7.keep q6 (by omega))
     have HF := hide (Qcg (gb := w.heap.size) hX7 (fun b hb => ⟨by omega, by omega⟩) hR7 (k6.trans k7) (Nat.le_refl _) hrb)
     clear hR7 k7 k6 n6 hX6 q6 g3 g4 hX7 zf HW6 hxb
     go_wp2_with fail
     refine bodyPost_ret (v := .agg #[.int .i64 x.kind, .int .i64 x.num, str x.txt, .slice xa xn xc, .int .i64 x.at_]) (by simp [results, Tryz.results177, go_sem, y0, y1, y2, y3, y4]) rfl ?_
     rw [Qa HPO2]
     exact ⟨_, rfl, Qa HF _ _ _ _ _⟩
  have g2 : (s == [40]) = false := by simpa using c2
  have hE1 : sr = (wordQ e l2 i2).bind fun w l3 i => (encl e [40] [41] E l3 i).map fun ks => .mk 6 0 w ks t.at_ := by rw [Qa hsg]; exact (if_neg c1).trans (if_neg c2)
  rw [hE1] at HPO
  have hm := Qcp hR4
  have K4 := hide (Ya k04 (Ya q4 hsz))
  clear c1 c2 hE1 hsg hR4 k04 q4 hsz
  cases hq : wordQ e l2 i2 with
  | bad why at1 l3 =>
   rw [hq] at hm HPO
   clear hq
   go_wp2_with fail
   refine hm.mono ?_
   clear hm
   rintro en w5 ⟨rfl, k5⟩
   have H5 := hide ((Qa K4).1.trans k5)
   clear k5
   go_wp2_with fail
   refine ⟨rfl, ?_⟩
   rw [Qa HPO]
   exact ⟨rfl, Qa H5⟩
  | ok wd l3 i3 =>
   rw [hq] at hm HPO
   clear hq
   go_wp2_with fail
   refine hm.mono ?_
   clear hm
   rintro en w5 ⟨_, rfl, rfl, hR5, k5⟩
   obtain ⟨k4, q4, hsz⟩ := Qa K4
   have hs5 := k5.size
   obtain ⟨w6, hw6⟩ : ∃ w6, w6 = w5.alloc (.cells #[.int .i64 6, .int .i64 0, str wd, .slice none 0 0, .int .i64 (t.at_ : Int)] 67) := ⟨_, rfl⟩
   have b6 : Below w5.heap.size w5 w6 := bnw hw6
   have n6 : w6.heap[w5.heap.size]? = some (.cells #[.int .i64 6, .int .i64 0, str wd, .slice none 0 0, .int .i64 (t.at_ : Int)] 67 (0, 0)) := nnw hw6
   have q6 : w6.heap[w.heap.size]? = some exZ := (b6.block _ (by omega)).trans (k5.keep q4 (by omega))
   have s6 : w6.heap.size = w5.heap.size + 1 := by rw [hw6]; simp
   have k6 : Kp rb w w6 := (k4.trans k5).trans (Kp.of_below b6)
   have hen := Qmk PE Qae (Qrx (Qa HP).1) (Qa HP).2.1 (hR5.later b6) [40] [41] (by decide) (by decide)
   have HW6 := hide hw6
   have K6 := hide (Ya k6 (Ya n6 (Ya q6 (Ya (by omega : w.heap.size + 1 ≤ w5.heap.size) s6))))
   generalize hxb : w5.heap.size = xb at K6
   clear hR5 k5 k4 q4 hsz hs5 hw6 b6 n6 q6 k6 K4 s6
   cases hq : encl e [40] [41] E l3 i3 with
   | bad why at1 l4 =>
    have HPO2 : Hid (PO = fun en w' => Ans rb e dp w (fun w2 v x => VE (fun b => w.heap.size ≤ b) w2 v x) (.bad why at1 l4) en w') := by
     have := Qa HPO
     rw [Rs.bind, hq] at this
     exact this
    rw [hq] at hen
    clear hq HPO
    go_wp2_with fail
    rw [← Qa HW6]
    refine hen.mono ?_
    clear hen
    rintro en w7 ⟨rfl, k7⟩
    have H7 := hide ((Qa K6).1.trans k7)
    clear k7
    go_wp2_with fail
    refine ⟨rfl, ?_⟩
    rw [Qa HPO2]
    exact ⟨rfl, Qa H7⟩
   | ok ks l4 i4 =>
    have HPO2 : Hid (PO = fun en w' => Ans rb e dp w (fun w2 v x => VE (fun b => w.heap.size ≤ b) w2 v x) (.ok (.mk 6 0 wd ks t.at_) l4 i4) en w') := by
     have := Qa HPO
     rw [Rs.bind, hq] at this
     exact this
    rw [hq] at hen
    clear hq HPO
    go_wp2_with fail
    rw [← Qa HW6]
    refine hen.mono ?_
    clear hen
    rintro en w7 ⟨_, rfl, hL, hR7, k7⟩
    obtain ⟨ka, kc, _, ev, _⟩ := id hL
    subst ev
    obtain ⟨k6, n6, q6, g3, s6⟩ := Qa K6
    have n7 := k7.keep n6 (by omega)
    have q7 := k7.keep q6 (by omega)
    have hne8 : w.heap.size ≠ xb := by omega
    obtain ⟨w8, hw8⟩ : ∃ w8, w8 = w7.setCell ⟨xb, 3, none⟩ (.slice ka ks.length kc) := ⟨_, rfl⟩
    have n8 : w8.heap[xb]? = some (.cells #[.int .i64 6, .int .i64 0, str wd, .slice ka ks.length kc, .int .i64 (t.at_ : Int)] 67 (0, 0)) := by rw [hw8]; exact (Qad n7 3 _).trans rfl
    have q8 : w8.heap[w.heap.size]? = some exZ := by rw [hw8, hpS hne8]; exact q7
    have k8 : Kp rb w w8 := by rw [hw8]; exact (k6.trans k7).set2 (by omega)
    have hR8 : Rd rb e w8 l4 i4 dp := by rw [hw8]; exact hR7.set2 (by omega)
    have hL8 : LsAt PE 5 (fun b => w6.heap.size ≤ b) w8 (.slice ka ks.length kc) ks := by
     refine hL.same Qae (by rw [hw8]; simp [World.setCell]) (fun b hb hl => ?_)
     have hb' : w6.heap.size ≤ b := hb
     have hn : b ≠ xb := by omega
     rw [hw8, hpS hn]
    obtain ⟨x0, x1, x2, x3, x4, xf⟩ := ex5 n7
    obtain ⟨z0, z1, z2, z3, z4, zf⟩ := ex5 n8
    obtain ⟨y0, y1, y2, y3, y4, yf⟩ := ex5 q8
    have HF := hide (Qcg (x := .mk 6 0 wd ks t.at_) (gb := w.heap.size) (Qvw hL8) (fun b hb => ⟨by omega, by omega⟩) hR8 k8 (Nat.le_refl _) hrb)
    clear hR7 k7 k6 n6 q6 g3 n7 q7 n8 q8 k8 hR8 hL8 hL HW6 hxb x0 x1 x2 x4 zf s6 hne8
    subst hw8
    go_wp2_with fail
    refine bodyPost_ret (v := .agg #[.int .i64 6, .int .i64 0, str wd, .slice ka ks.length kc, .int .i64 t.at_]) (by simp [results, Tryz.results177, go_sem, y0, y1, y2, y3, y4]) rfl ?_
    rw [Qa HPO2]
    exact ⟨_, rfl, Qa HF _ _ _ _ _⟩
end
section
open Go.RowKit Go.Maps
theorem Qvy {rb e : Nat} : OpC 169 rb e 32 (refuse e 4) := by
 intro w l it h
 obtain ⟨w1, hw1⟩ : ∃ w1, w1 = w.alloc exZ := ⟨_, rfl⟩
 have b1 : Below w.heap.size w w1 := bnw hw1
 have hc := Qky (h.later b1)
 have HW1 : Hid (w1 = w.alloc (.cells #[.int .i64 0, .int .i64 0, .string ⟨#[]⟩, .slice none 0 0, .int .i64 0] 67)) := hw1
 obtain ⟨PO, hPO⟩ : ∃ PO : Ending → World → Prop, PO = fun en w' => Ans rb e 32 w (fun w2 v x => VE (fun b => w.heap.size ≤ b) w2 v x) (refuse e 4 l it) en w' := ⟨_, rfl⟩
 rw [← hPO]
 have HPO := hide hPO
 have B1 := hide b1
 clear hw1 h b1 hPO
 go_enter Tryz.func169, Tryz.ntmps169
 go_wp2_with fail
 rw [← Qa HW1]
 refine hc.mono ?_
 clear hc
 rintro en w3 ⟨rfl, b3⟩
 have H3 := hide (Kp.of_below (rb := rb) ((Qa B1).trans (b3.mono (Qa B1).size)))
 clear b3
 go_wp2_with fail
 refine ⟨rfl, ?_⟩
 rw [Qa HPO]
 exact ⟨rfl, Qa H3⟩

theorem Qsz {rb e dp : Nat} {E F : Pr Ex} (hd : dp < 32) (hE : OpC 144 rb e (dp + 1) E) (hsE : Shr E) (hF : OpC 169 rb e (dp + 1) F) (hnum : ∀ l it x l2 i2, (ahd e 0 l).kind = 2 → F l it = .ok x l2 i2 → x.num = (ahd e 0 l).num) : OpC 169 rb e dp (factorB e E F) := by
 have mixed : Tryz.prog.follows .mixedOrders = true := by kernel_rfl
 intro w l it h
 obtain ⟨w1, hw1⟩ : ∃ w1, w1 = w.alloc exZ := ⟨_, rfl⟩
 have b1 : Below w.heap.size w w1 := bnw hw1
 have q1 : w1.heap[w.heap.size]? = some exZ := nnw hw1
 have s1 : w1.heap.size = w.heap.size + 1 := by rw [hw1]; simp
 have he := Qgb (h.later b1) hd
 have hrb := h.lt
 obtain ⟨PO, hPO⟩ : ∃ PO : Ending → World → Prop, PO = fun en w' => Ans rb e dp w (fun w2 v x => VE (fun b => w.heap.size ≤ b) w2 v x) (factorB e E F l it) en w' := ⟨_, rfl⟩
 rw [← hPO]
 have HW1 : Hid (w1 = w.alloc (.cells #[.int .i64 0, .int .i64 0, .string ⟨#[]⟩, .slice none 0 0, .int .i64 0] 67)) := hw1
 have HPO := hide hPO
 have HP := hide (Ya hE (Ya hsE (Ya hF (Ya hnum hd))))
 have K1 := hide (Ya b1 (Ya q1 s1))
 clear hE hsE hF hnum h b1 q1 s1 hw1 hPO hd
 go_enter Tryz.func169, Tryz.ntmps169
 go_wp2_with fail
 rw [← Qa HW1]
 refine he.mono ?_
 clear he
 rintro en w2 ⟨rfl, hR2, k2⟩
 obtain ⟨b1, q1, s1⟩ := Qa K1
 have hs2 := k2.size
 obtain ⟨w3, hw3⟩ : ∃ w3, w3 = w2.alloc exZ := ⟨_, rfl⟩
 have b3 : Below w2.heap.size w2 w3 := bnw hw3
 have x3 : w3.heap[w2.heap.size]? = some exZ := nnw hw3
 have k3 : Kp rb w w3 := ((Kp.of_below b1).trans k2).trans (Kp.of_below b3)
 have q3 : w3.heap[w.heap.size]? = some exZ := (b3.block _ (by omega)).trans (k2.keep q1 (by omega))
 have s3 : w3.heap.size = w2.heap.size + 1 := by rw [hw3]; simp
 have hR3 := hR2.later b3
 have ha := Qau hR3 0
 unfold tokV at ha
 have HW3 : Hid (w3 = w2.alloc (.cells #[.int .i64 0, .int .i64 0, .string ⟨#[]⟩, .slice none 0 0, .int .i64 0] 67)) := hw3
 have K3 := hide (Ya k3 (Ya x3 (Ya q3 (Ya hR3 (Ya s3 (by omega : w.heap.size + 1 ≤ w2.heap.size))))))
 obtain ⟨t, ht⟩ : ∃ t, t = ahd e 0 l := ⟨_, rfl⟩
 rw [← ht] at ha
 generalize hxb : w2.heap.size = xb at K3
 clear b1 q1 s1 hs2 hw3 b3 x3 k3 q3 s3 K1 hR2 k2 hR3
 go_wp2_with fail
 rw [← Qa HW3]
 clear HW3 hxb
 refine ha.mono ?_
 clear ha
 rintro en w4 ⟨rfl, b4⟩
 obtain ⟨k3, x3, q3, hR3, s3, g1⟩ := Qa K3
 have hs4 := b4.size
 obtain ⟨w5, hw5⟩ : ∃ w5, w5 = w4.alloc (.cells #[.int .i64 t.kind, str t.text, .int .i64 t.num, .int .i64 (t.at_ : Int)] 83) := ⟨_, rfl⟩
 have b5 : Below w3.heap.size w3 w5 := by rw [hw5]; exact b4.alloc b4.size _
 have n5 : w5.heap[w4.heap.size]? = some (.cells #[.int .i64 t.kind, str t.text, .int .i64 t.num, .int .i64 (t.at_ : Int)] 83 (0, 0)) := nnw hw5
 have x5 : w5.heap[xb]? = some exZ := (b5.block _ (by omega)).trans x3
 have q5 : w5.heap[w.heap.size]? = some exZ := (b5.block _ (by omega)).trans q3
 have k5 := k3.trans (Kp.of_below b5)
 have hR5 := hR3.later b5
 have HG : Hid (w.heap.size + 1 ≤ xb) := g1
 have K5 := hide (Ya k5 (Ya n5 (Ya x5 (Ya q5 (Ya g1 (by omega : xb + 1 ≤ w4.heap.size))))))
 have HW5 := hide hw5
 obtain ⟨tc0, tc1, tc2, tc3⟩ := tk4 n5
 generalize htb : w4.heap.size = tb at tc0 tc1 tc2 tc3 K5
 clear k3 x3 q3 hR3 s3 g1 hs4 hw5 b5 n5 x5 q5 k5 K3 b4
 by_cases c2 : t.kind = 2
 ·
  have g2 : (t.kind == 2) = true := by simpa using c2
  obtain ⟨t', l2, rfl, hk⟩ := Qem (ht ▸ c2) (by decide)
  clear hk
  have e0 : t = t' := ht
  subst e0
  obtain ⟨i2, hi2⟩ : ∃ i2, i2 = it := ⟨_, rfl⟩
  have HPO2 : Hid (PO = fun en w' => Ans rb e dp w (fun w2 v x => VE (fun b => w.heap.size ≤ b) w2 v x) (.ok (.mk 2 t.num [] [] t.at_) l2 i2) en w') := by
   have := Qa HPO
   rw [factorB, if_pos (ht ▸ c2)] at this
   rw [hi2]; exact this
  have htk : Calls Tryz.prog 110 #[.pointer (some ⟨rb, 0, none⟩)] w5.drew fun en w' => en = .returned (.agg #[.int .i64 t.kind, str t.text, .int .i64 t.num, .int .i64 (t.at_ : Int)]) ∧ Rd rb e w' l2 i2 (dp + 1) ∧ Kp rb w5.drew w' := by rw [hi2]; exact Qbu (hR5.later ((Below.refl _ w5).drew))
  clear HPO ht c2 hR5 hi2
  have HPO := HPO2
  clear HPO2
  go_wp2_with fail
  rw [← Qa HW5]
  clear HW5 htb
  go_wp2_with fail
  refine Qax (m := 6) (ml := [(0, 1), (3, 1), (4, 1), (1, 0), (2, 0), (5, 0), (6, 0)]) (fun _ w' => w'.heap[tb]? = some (.cells #[.int .i64 t.kind, str t.text, .int .i64 t.num, .int .i64 (t.at_ : Int)] 83 (0, 0))) mixed (by kernel_rfl) rfl (by rfl) (by kernel_rfl) (fun c a d v w h => by cases d <;> exact h) (fun PP PQ hPP hPQ => ?_)
  refine Qac rfl (by kernel_rfl) (fun _ _ _ => by go_simp <;> rfl) ?_
  refine Qac rfl (by kernel_rfl) (fun _ _ _ => by go_simp <;> rfl) ?_
  refine Qac rfl (by kernel_rfl) (fun f w' hw => by obtain ⟨u0, u1, u2, u3⟩ := tk4 hw; go_simp <;> rfl) ?_
  refine Qaf rfl (Qa K5).2.1 (fun K hK => ?_)
  go_simp
  refine htk.mono ?_
  clear htk
  rintro en w6 ⟨rfl, hR6, k56'⟩
  obtain ⟨k5, n5, x5, q5, g1, g2⟩ := Qa K5
  have k56 : Kp rb w5 w6 := (Kp.of_below ((Below.refl _ w5).drew)).trans k56'
  have hs56 := k56.size
  have h5s := Qag n5
  have k6 := k5.trans k56
  have x6 := k56.keep x5 (by omega)
  have q6 := k56.keep q5 (by omega)
  have n6 := k56.keep n5 (by omega)
  have hX6 : ExS (fun b => w.heap.size < b ∧ b ≠ xb) w6 [.int .i64 2, .int .i64 t.num, .string ⟨#[]⟩, .slice none 0 0, .int .i64 (t.at_ : Int)] (.mk 2 t.num [] [] (t.at_ : Int)) := Qep _ w6 _ _ _ _
  obtain ⟨w7, hw7⟩ : ∃ w7, w7 = ((((w6.setCell ⟨xb, 0, none⟩ (.int .i64 2)).setCell ⟨xb, 1, none⟩ (.int .i64 t.num)).setCell ⟨xb, 2, none⟩ (.string ⟨#[]⟩)).setCell ⟨xb, 3, none⟩ (.slice none 0 0)).setCell ⟨xb, 4, none⟩ (.int .i64 (t.at_ : Int)) := ⟨_, rfl⟩
  have n7 : w7.heap[xb]? = some (.cells #[.int .i64 2, .int .i64 t.num, .string ⟨#[]⟩, .slice none 0 0, .int .i64 (t.at_ : Int)] 67 (0, 0)) := by rw [hw7]; exact (Qad (Qad (Qad (Qad (Qad x6 0 _) 1 _) 2 _) 3 _) 4 _).trans rfl
  have hsame : ∀ b, b ≠ xb → w7.heap[b]? = w6.heap[b]? := fun b hb => by
   rw [hw7, hpS hb, hpS hb, hpS hb, hpS hb, hpS hb]
  have s7 : w6.heap.size = w7.heap.size := by rw [hw7]; simp [World.setCell]
  have q7 : w7.heap[w.heap.size]? = some exZ := (hsame _ (by omega)).trans q6
  have k7 : Kp rb w w7 := by rw [hw7]; exact ((((k6.set2 (by omega)).set2 (by omega)).set2 (by omega)).set2 (by omega)).set2 (by omega)
  have hR7 : Rd rb e w7 l2 i2 (dp + 1) := by rw [hw7]; exact ((((hR6.set2 (by omega)).set2 (by omega)).set2 (by omega)).set2 (by omega)).set2 (by omega)
  have hX7 : ExS (fun b => w.heap.size < b ∧ b ≠ xb) w7 [.int .i64 2, .int .i64 t.num, .string ⟨#[]⟩, .slice none 0 0, .int .i64 (t.at_ : Int)] (.mk 2 t.num [] [] (t.at_ : Int)) := Qae.same _ _ w7 _ _ hX6 (by omega) (fun b hs _ => hsame b hs.2)
  have hl := Qdl hR7 (Qa HP).2.2.2.2
  have K7 := hide (Ya k7 (Ya n7 (Ya q7 hX7)))
  have HW7 := hide hw7
  obtain ⟨y0, y1, y2, y3, y4, yf⟩ := ex5 x6
  have N6 := hide n6
  have N7 := hide ((hsame tb (by omega)).trans n6)
  clear hR6 k56 k56' k5 n5 x5 q5 g1 g2 hs56 h5s k6 x6 q6 n6 hX6 n7 hsame s7 q7 k7 hR7 hX7 K5 tc0 tc1 tc2 tc3
  subst hw7
  clear HW7
  go_wp2_with fail
  refine Qaf rfl (Qa N6) (fun K hK => ?_)
  go_simp
  refine hK _ _ ?_
  clear hK K
  refine Qaf rfl (Qa N6) (fun K hK => ?_)
  go_simp
  refine hK _ _ ?_
  clear hK K
  refine Qaf rfl (Qa N6) (fun K hK => ?_)
  go_simp
  refine hK _ _ ?_
  clear hK K
  refine Qbx (Qa N7) (hPP _ _ ?_)
  clear hPP hPQ
  go_wp2_with fail
  clear y0 y1 y2 y3 y4 yf
  refine hl.mono ?_
  clear hl
  rintro en w8 ⟨rfl, hR8, k8⟩
  obtain ⟨k7, n7, q7, hX7⟩ := Qa K7
  have g3 := Qa HG
  obtain ⟨z0, z1, z2, z3, z4, zf⟩ := ex5 (k8.keep n7 (by omega))
  have hX8 := Qae.same _ _ w8 _ _ hX7 k8.size (fun b hs hl => k8.block b hl (by omega))
  obtain ⟨y0, y1, y2, y3, y4, yf⟩ := ex5 (k8.keep q7 (by omega))
  have HF := hide (Qcg (x := (.mk 2 t.num [] [] (t.at_ : Int))) (gb := w.heap.size) hX8 (fun b hb => ⟨by omega, by omega⟩) hR8 (k7.trans k8) (Nat.le_refl _) hrb)
  clear hR8 k8 k7 n7 q7 hX7 hX8 zf K7 g3
  go_wp2_with fail
  refine bodyPost_ret (v := .agg #[.int .i64 2, .int .i64 t.num, .string ⟨#[]⟩, .slice none 0 0, .int .i64 (t.at_ : Int)]) (by simp [results, Tryz.results169, go_sem, y0, y1, y2, y3, y4]) rfl ?_
  rw [Qa HPO]
  exact ⟨_, rfl, Qa HF _ _ _ _ _⟩
 have g2 : (t.kind == 2) = false := by simpa using c2
 by_cases c3 : t.kind = 3
 ·
  have g3 : (t.kind == 3) = true := by simpa using c3
  obtain ⟨t', l2, rfl, hk⟩ := Qem (ht ▸ c3) (by decide)
  clear hk
  have e0 : t = t' := ht
  subst e0
  obtain ⟨i2, hi2⟩ : ∃ i2, i2 = it := ⟨_, rfl⟩
  have HPO2 : Hid (PO = fun en w' => Ans rb e dp w (fun w2 v x => VE (fun b => w.heap.size ≤ b) w2 v x) (.ok (.mk 3 0 t.text [] t.at_) l2 i2) en w') := by
   have := Qa HPO
   rw [factorB, if_neg (ht ▸ c2), if_pos (ht ▸ c3)] at this
   rw [hi2]; exact this
  have htk : Calls Tryz.prog 110 #[.pointer (some ⟨rb, 0, none⟩)] w5.drew fun en w' => en = .returned (.agg #[.int .i64 t.kind, str t.text, .int .i64 t.num, .int .i64 (t.at_ : Int)]) ∧ Rd rb e w' l2 i2 (dp + 1) ∧ Kp rb w5.drew w' := by rw [hi2]; exact Qbu (hR5.later ((Below.refl _ w5).drew))
  clear HPO ht c2 c3 hR5 hi2
  have HPO := HPO2
  clear HPO2
  go_wp2_with fail
  rw [← Qa HW5]
  clear HW5 htb
  go_wp2_with fail
  refine Qax (m := 6) (ml := [(0, 1), (3, 1), (4, 1), (1, 0), (2, 0), (5, 0), (6, 0)]) (fun _ w' => w'.heap[tb]? = some (.cells #[.int .i64 t.kind, str t.text, .int .i64 t.num, .int .i64 (t.at_ : Int)] 83 (0, 0))) mixed (by kernel_rfl) rfl (by rfl) (by kernel_rfl) (fun c a d v w h => by cases d <;> exact h) (fun PP PQ hPP hPQ => ?_)
  refine Qac rfl (by kernel_rfl) (fun _ _ _ => by go_simp <;> rfl) ?_
  refine Qac rfl (by kernel_rfl) (fun _ _ _ => by go_simp <;> rfl) ?_
  refine Qac rfl (by kernel_rfl) (fun f w' hw => by obtain ⟨u0, u1, u2, u3⟩ := tk4 hw; go_simp <;> rfl) ?_
  refine Qaf rfl (Qa K5).2.1 (fun K hK => ?_)
  go_simp
  refine htk.mono ?_
  clear htk
  rintro en w6 ⟨rfl, hR6, k56'⟩
  obtain ⟨k5, n5, x5, q5, g1, g2⟩ := Qa K5
  have k56 : Kp rb w5 w6 := (Kp.of_below ((Below.refl _ w5).drew)).trans k56'
  have hs56 := k56.size
  have h5s := Qag n5
  have k6 := k5.trans k56
  have x6 := k56.keep x5 (by omega)
  have q6 := k56.keep q5 (by omega)
  have n6 := k56.keep n5 (by omega)
  have hX6 : ExS (fun b => w.heap.size < b ∧ b ≠ xb) w6 [.int .i64 3, .int .i64 0, str t.text, .slice none 0 0, .int .i64 (t.at_ : Int)] (.mk 3 0 t.text [] (t.at_ : Int)) := Qep _ w6 _ _ _ _
  obtain ⟨w7, hw7⟩ : ∃ w7, w7 = ((((w6.setCell ⟨xb, 0, none⟩ (.int .i64 3)).setCell ⟨xb, 1, none⟩ (.int .i64 0)).setCell ⟨xb, 2, none⟩ (str t.text)).setCell ⟨xb, 3, none⟩ (.slice none 0 0)).setCell ⟨xb, 4, none⟩ (.int .i64 (t.at_ : Int)) := ⟨_, rfl⟩
  have n7 : w7.heap[xb]? = some (.cells #[.int .i64 3, .int .i64 0, str t.text, .slice none 0 0, .int .i64 (t.at_ : Int)] 67 (0, 0)) := by rw [hw7]; exact (Qad (Qad (Qad (Qad (Qad x6 0 _) 1 _) 2 _) 3 _) 4 _).trans rfl
  have hsame : ∀ b, b ≠ xb → w7.heap[b]? = w6.heap[b]? := fun b hb => by
   rw [hw7, hpS hb, hpS hb, hpS hb, hpS hb, hpS hb]
  have s7 : w6.heap.size = w7.heap.size := by rw [hw7]; simp [World.setCell]
  have q7 : w7.heap[w.heap.size]? = some exZ := (hsame _ (by omega)).trans q6
  have k7 : Kp rb w w7 := by rw [hw7]; exact ((((k6.set2 (by omega)).set2 (by omega)).set2 (by omega)).set2 (by omega)).set2 (by omega)
  have hR7 : Rd rb e w7 l2 i2 (dp + 1) := by rw [hw7]; exact ((((hR6.set2 (by omega)).set2 (by omega)).set2 (by omega)).set2 (by omega)).set2 (by omega)
  have hX7 : ExS (fun b => w.heap.size < b ∧ b ≠ xb) w7 [.int .i64 3, .int .i64 0, str t.text, .slice none 0 0, .int .i64 (t.at_ : Int)] (.mk 3 0 t.text [] (t.at_ : Int)) := Qae.same _ _ w7 _ _ hX6 (by omega) (fun b hs _ => hsame b hs.2)
  have hl := Qdl hR7 (Qa HP).2.2.2.2
  have K7 := hide (Ya k7 (Ya n7 (Ya q7 hX7)))
  have HW7 := hide hw7
  obtain ⟨y0, y1, y2, y3, y4, yf⟩ := ex5 x6
  have N6 := hide n6
  have N7 := hide ((hsame tb (by omega)).trans n6)
  clear hR6 k56 k56' k5 n5 x5 q5 g1 g2 hs56 h5s k6 x6 q6 n6 hX6 n7 hsame s7 q7 k7 hR7 hX7 K5 tc0 tc1 tc2 tc3
  subst hw7
  clear HW7
  go_wp2_with fail
  refine Qaf rfl (Qa N6) (fun K hK => ?_)
  go_simp
  refine hK _ _ ?_
  clear hK K
  refine Qaf rfl (Qa N6) (fun K hK => ?_)
  go_simp
  refine hK _ _ ?_
  clear hK K
  refine Qaf rfl (Qa N6) (fun K hK => ?_)
  go_simp
  refine hK _ _ ?_
  clear hK K
  refine Qbx (Qa N7) (hPP _ _ ?_)
  clear hPP hPQ
  go_wp2_with fail
  clear y0 y1 y2 y3 y4 yf
  refine hl.mono ?_
  clear hl
  rintro en w8 ⟨rfl, hR8, k8⟩
  obtain ⟨k7, n7, q7, hX7⟩ := Qa K7
  have g3 := Qa HG
  obtain ⟨z0, z1, z2, z3, z4, zf⟩ := ex5 (k8.keep n7 (by omega))
  have hX8 := Qae.same _ _ w8 _ _ hX7 k8.size (fun b hs hl => k8.block b hl (by omega))
  obtain ⟨y0, y1, y2, y3, y4, yf⟩ := ex5 (k8.keep q7 (by omega))
  have HF := hide (Qcg (x := (.mk 3 0 t.text [] (t.at_ : Int))) (gb := w.heap.size) hX8 (fun b hb => ⟨by omega, by omega⟩) hR8 (k7.trans k8) (Nat.le_refl _) hrb)
  clear hR8 k8 k7 n7 q7 hX7 hX8 zf K7 g3
  go_wp2_with fail
  refine bodyPost_ret (v := .agg #[.int .i64 3, .int .i64 0, str t.text, .slice none 0 0, .int .i64 (t.at_ : Int)]) (by simp [results, Tryz.results169, go_sem, y0, y1, y2, y3, y4]) rfl ?_
  rw [Qa HPO]
  exact ⟨_, rfl, Qa HF _ _ _ _ _⟩
 have g3 : (t.kind == 3) = false := by simpa using c3
 by_cases c1 : t.kind = 1
 ·
  have g1 : (t.kind == 1) = true := by simpa using c1
  have hm := Qof hR5 (ht ▸ c1)
  have hV : factorB e E F l it = varP e l it := by
   rw [factorB, if_neg (ht ▸ c2), if_neg (ht ▸ c3), if_pos (ht ▸ c1)]; rfl
  rw [hV] at HPO
  clear ht c1 c2 c3 hR5 hV
  go_wp2_with fail
  rw [← Qa HW5]
  clear HW5 htb
  cases hq : varP e l it with
  | bad why at1 l2 =>
   rw [hq] at hm HPO
   clear hq
   go_wp2_with fail
   refine hm.mono ?_
   clear hm
   rintro en w6 ⟨rfl, k6⟩
   have H6 := hide ((Qa K5).1.trans k6)
   clear k6
   go_wp2_with fail
   refine ⟨rfl, ?_⟩
   rw [Qa HPO]
   exact ⟨rfl, Qa H6⟩
  | ok x l2 i2 =>
   rw [hq] at hm HPO
   clear hq
   go_wp2_with fail
   refine hm.mono ?_
   clear hm
   rintro en w6 ⟨_, rfl, ⟨_, rfl, ⟨xa, xn, xc, rfl⟩, hX⟩, hR6, k56⟩
   obtain ⟨k5, n5, x5, q5, g1, g2⟩ := Qa K5
   have hs56 := k56.size
   have h5s := Qag n5
   have k6 := k5.trans k56
   have x6 := k56.keep x5 (by omega)
   have q6 := k56.keep q5 (by omega)
   have hX6 := Qae.mono _ (fun b => w.heap.size < b ∧ b ≠ xb) _ _ _ hX (fun b _ hs => ⟨by omega, by omega⟩)
   obtain ⟨w7, hw7⟩ : ∃ w7, w7 = ((((w6.setCell ⟨xb, 0, none⟩ (.int .i64 x.kind)).setCell ⟨xb, 1, none⟩ (.int .i64 x.num)).setCell ⟨xb, 2, none⟩ (str x.txt)).setCell ⟨xb, 3, none⟩ (.slice xa xn xc)).setCell ⟨xb, 4, none⟩ (.int .i64 x.at_) := ⟨_, rfl⟩
   have n7 : w7.heap[xb]? = some (.cells #[.int .i64 x.kind, .int .i64 x.num, str x.txt, .slice xa xn xc, .int .i64 x.at_] 67 (0, 0)) := by rw [hw7]; exact (Qad (Qad (Qad (Qad (Qad x6 0 _) 1 _) 2 _) 3 _) 4 _).trans rfl
   have hsame : ∀ b, b ≠ xb → w7.heap[b]? = w6.heap[b]? := fun b hb => by
    rw [hw7, hpS hb, hpS hb, hpS hb, hpS hb, hpS hb]
   have s7 : w6.heap.size = w7.heap.size := by rw [hw7]; simp [World.setCell]
   have q7 : w7.heap[w.heap.size]? = some exZ := (hsame _ (by omega)).trans q6
   have k7 : Kp rb w w7 := by rw [hw7]; exact ((((k6.set2 (by omega)).set2 (by omega)).set2 (by omega)).set2 (by omega)).set2 (by omega)
   have hR7 : Rd rb e w7 l2 i2 (dp + 1) := by rw [hw7]; exact ((((hR6.set2 (by omega)).set2 (by omega)).set2 (by omega)).set2 (by omega)).set2 (by omega)
   have hX7 : ExS (fun b => w.heap.size < b ∧ b ≠ xb) w7 [.int .i64 x.kind, .int .i64 x.num, str x.txt, .slice xa xn xc, .int .i64 x.at_] x := Qae.same _ _ w7 _ _ hX6 (by omega) (fun b hs _ => hsame b hs.2)
   have hl := Qdl hR7 (Qa HP).2.2.2.2
   have K7 := hide (Ya k7 (Ya n7 (Ya q7 hX7)))
   have HW7 := hide hw7
   obtain ⟨y0, y1, y2, y3, y4, yf⟩ := ex5 x6
   clear hX hR6 k56 k5 n5 x5 q5 g1 g2 hs56 h5s k6 x6 q6 hX6 hw7 n7 hsame s7 q7 k7 hR7 hX7 K5
   go_wp2_with fail
   rw [← Qa HW7]
   clear HW7 y0 y1 y2 y3 y4 yf
   refine hl.mono ?_
   clear hl
   rintro en w8 ⟨rfl, hR8, k8⟩
   obtain ⟨k7, n7, q7, hX7⟩ := Qa K7
   have g3 := Qa HG
   obtain ⟨z0, z1, z2, z3, z4, zf⟩ := ex5 (k8.keep n7 (by omega))
   have hX8 := Qae.same _ _ w8 _ _ hX7 k8.size (fun b hs hl => k8.block b hl (by omega))
   obtain ⟨y0, y1, y2, y3, y4, yf⟩ := ex5 (k8.keep q7 (by omega))
   have HF := hide (Qcg (x := x) (gb := w.heap.size) hX8 (fun b hb => ⟨by omega, by omega⟩) hR8 (k7.trans k8) (Nat.le_refl _) hrb)
   clear hR8 k8 k7 n7 q7 hX7 hX8 zf K7 g3
   go_wp2_with fail
   refine bodyPost_ret (v := .agg #[.int .i64 x.kind, .int .i64 x.num, str x.txt, .slice xa xn xc, .int .i64 x.at_]) (by simp [results, Tryz.results169, go_sem, y0, y1, y2, y3, y4]) rfl ?_
   rw [Qa HPO]
   exact ⟨_, rfl, Qa HF _ _ _ _ _⟩
 have g1 : (t.kind == 1) = false := by simpa using c1
 have hm := Qts (Qa HP).1 (Qa HP).2.1 (Qa HP).2.2.1 (Qa HP).2.2.2.1 hR5
 have hV : factorB e E F l it = signed e E F l it := by
  rw [factorB, if_neg (ht ▸ c2), if_neg (ht ▸ c3), if_neg (ht ▸ c1)]
 rw [hV] at HPO
 clear ht c1 c2 c3 hR5 hV
 go_wp2_with fail
 rw [← Qa HW5]
 clear HW5 htb
 cases hq : signed e E F l it with
 | bad why at1 l2 =>
  rw [hq] at hm HPO
  clear hq
  go_wp2_with fail
  refine hm.mono ?_
  clear hm
  rintro en w6 ⟨rfl, k6⟩
  have H6 := hide ((Qa K5).1.trans k6)
  clear k6
  go_wp2_with fail
  refine ⟨rfl, ?_⟩
  rw [Qa HPO]
  exact ⟨rfl, Qa H6⟩
 | ok x l2 i2 =>
  rw [hq] at hm HPO
  clear hq
  go_wp2_with fail
  refine hm.mono ?_
  clear hm
  rintro en w6 ⟨_, rfl, ⟨_, rfl, ⟨xa, xn, xc, rfl⟩, hX⟩, hR6, k56⟩
  obtain ⟨k5, n5, x5, q5, g1, g2⟩ := Qa K5
  have hs56 := k56.size
  have h5s := Qag n5
  have k6 := k5.trans k56
  have x6 := k56.keep x5 (by omega)
  have q6 := k56.keep q5 (by omega)
  have hX6 := Qae.mono _ (fun b => w.heap.size < b ∧ b ≠ xb) _ _ _ hX (fun b _ hs => ⟨by omega, by omega⟩)
  obtain ⟨w7, hw7⟩ : ∃ w7, w7 = ((((w6.setCell ⟨xb, 0, none⟩ (.int .i64 x.kind)).setCell ⟨xb, 1, none⟩ (.int .i64 x.num)).setCell ⟨xb, 2, none⟩ (str x.txt)).setCell ⟨xb, 3, none⟩ (.slice xa xn xc)).setCell ⟨xb, 4, none⟩ (.int .i64 x.at_) := ⟨_, rfl⟩
  have n7 : w7.heap[xb]? = some (.cells #[.int .i64 x.kind, .int .i64 x.num, str x.txt, .slice xa xn xc, .int .i64 x.at_] 67 (0, 0)) := by rw [hw7]; exact (Qad (Qad (Qad (Qad (Qad x6 0 _) 1 _) 2 _) 3 _) 4 _).trans rfl
  have hsame : ∀ b, b ≠ xb → w7.heap[b]? = w6.heap[b]? := fun b hb => by
   rw [hw7, hpS hb, hpS hb, hpS hb, hpS hb, hpS hb]
  have s7 : w6.heap.size = w7.heap.size := by rw [hw7]; simp [World.setCell]
  have q7 : w7.heap[w.heap.size]? = some exZ := (hsame _ (by omega)).trans q6
  have k7 : Kp rb w w7 := by rw [hw7]; exact ((((k6.set2 (by omega)).set2 (by omega)).set2 (by omega)).set2 (by omega)).set2 (by omega)
  have hR7 : Rd rb e w7 l2 i2 (dp + 1) := by rw [hw7]; exact ((((hR6.set2 (by omega)).set2 (by omega)).set2 (by omega)).set2 (by omega)).set2 (by omega)
  have hX7 : ExS (fun b => w.heap.size < b ∧ b ≠ xb) w7 [.int .i64 x.kind, .int .i64 x.num, str x.txt, .slice xa xn xc, .int .i64 x.at_] x := Qae.same _ _ w7 _ _ hX6 (by omega) (fun b hs _ => hsame b hs.2)
  have hl := Qdl hR7 (Qa HP).2.2.2.2
  have K7 := hide (Ya k7 (Ya n7 (Ya q7 hX7)))
  have HW7 := hide hw7
  obtain ⟨y0, y1, y2, y3, y4, yf⟩ := ex5 x6
  clear hX hR6 k56 k5 n5 x5 q5 g1 g2 hs56 h5s k6 x6 q6 hX6 hw7 n7 hsame s7 q7 k7 hR7 hX7 K5
  go_wp2_with fail
  rw [← Qa HW7]
  clear HW7 y0 y1 y2 y3 y4 yf
  refine hl.mono ?_
  clear hl
  rintro en w8 ⟨rfl, hR8, k8⟩
  obtain ⟨k7, n7, q7, hX7⟩ := Qa K7
  have g3 := Qa HG
  obtain ⟨z0, z1, z2, z3, z4, zf⟩ := ex5 (k8.keep n7 (by omega))
  have hX8 := Qae.same _ _ w8 _ _ hX7 k8.size (fun b hs hl => k8.block b hl (by omega))
  obtain ⟨y0, y1, y2, y3, y4, yf⟩ := ex5 (k8.keep q7 (by omega))
  have HF := hide (Qcg (x := x) (gb := w.heap.size) hX8 (fun b hb => ⟨by omega, by omega⟩) hR8 (k7.trans k8) (Nat.le_refl _) hrb)
  clear hR8 k8 k7 n7 q7 hX7 hX8 zf K7 g3
  go_wp2_with fail
  refine bodyPost_ret (v := .agg #[.int .i64 x.kind, .int .i64 x.num, str x.txt, .slice xa xn xc, .int .i64 x.at_]) (by simp [results, Tryz.results169, go_sem, y0, y1, y2, y3, y4]) rfl ?_
  rw [Qa HPO]
  exact ⟨_, rfl, Qa HF _ _ _ _ _⟩
end
section
open Go.RowKit Go.Maps
theorem num_ex {e : Nat} : ∀ (d : Nat) (l : List Tok) (it : Nat) (x : Ex) (l2 : List Tok) (i2 : Nat), (ahd e 0 l).kind = 2 → (exD e d).2 l it = .ok x l2 i2 → x.num = (ahd e 0 l).num
 | 0, l, it, x, l2, i2, hk, h => by cases h
 | d + 1, l, it, x, l2, i2, hk, h => by
  have h' : factorB e (exD e d).1 (exD e d).2 l it = .ok x l2 i2 := h
  rw [factorB, if_pos hk] at h'
  cases h'; rfl
theorem Qqv {rb e : Nat} : ∀ (d dp : Nat), dp + d = 32 → OpC 144 rb e dp (exD e d).1 ∧ OpC 169 rb e dp (exD e d).2
 | 0, dp, h => by
  obtain rfl : dp = 32 := h
  exact ⟨expr_no, Qvy⟩
 | d + 1, dp, h => by
  have ih := Qqv (rb := rb) (e := e) d (dp + 1) (by omega)
  exact ⟨Jah (by omega) (Jbp ih.2 (Qfi d).2) (Qgx (Qfi d).2), Qsz (by omega) ih.1 (Qfi d).1 ih.2 (num_ex d)⟩
end
end Go.Proofs.YtccehgfecaamoaaGreatDoor
