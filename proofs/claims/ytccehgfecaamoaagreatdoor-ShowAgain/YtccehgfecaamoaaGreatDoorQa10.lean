/- syn: minus. syn: signed. -/
import Derived.Test.YtccehgfecaamoaaGreatDoorQa09
set_option maxRecDepth 100000
set_option maxHeartbeats 32000000
namespace Go.Proofs.YtccehgfecaamoaaGreatDoor
section
open Go.RowKit Go.Maps
def minP (e : Nat) (F : Pr Ex) (at0 : Int) : Pr Ex := fun l i => (F l i).map fun x => if (ahd e 0 l).kind = 2 then .mk 2 (- x.num) [] [] at0 else opE [45] (.mk 2 0 [] [] at0) x

theorem Qqh {rb e dp : Nat} {part : Pr Ex} (hpart : OpC 169 rb e dp part) (hnum : ∀ l it x l2 i2, (ahd e 0 l).kind = 2 → part l it = .ok x l2 i2 → x.num = (ahd e 0 l).num) {w : World} {l : List Tok} {it : Nat} (h : Rd rb e w l it dp) (at0 : Int) :
  Calls Tryz.prog 184 #[.pointer (some ⟨rb, 0, none⟩), .int .i64 at0] w fun en w' => Ans rb e dp w (fun w2 v x => VE (fun b => w.heap.size ≤ b) w2 v x) (minP e part at0 l it) en w' := by
 obtain ⟨w1, hw1⟩ : ∃ w1, w1 = w.alloc exZ := ⟨_, rfl⟩
 have b1 : Below w.heap.size w w1 := by rw [hw1]; exact (Below.refl _ w).alloc (Nat.le_refl _) _
 have q1 : w1.heap[w.heap.size]? = some exZ := by rw [hw1]; exact heap_alloc_new w _
 have s1 : w1.heap.size = w.heap.size + 1 := by rw [hw1]; simp
 have ha := Qak (h.later b1) 0
 unfold tokV at ha
 have hrb := h.lt
 have hbn : (ahd e 0 l).kind = 2 → 0 ≤ (ahd e 0 l).num ∧ (ahd e 0 l).num ≤ 9223372036854775807 := fun hk => by
  obtain ⟨t, l', rfl, hk'⟩ := Qcv hk (by decide)
  have := h.num t (List.mem_cons_self ..)
  exact ⟨this.2.2.1, this.2.2.2.1⟩
 obtain ⟨PO, hPO⟩ : ∃ PO : Ending → World → Prop, PO = fun en w' => Ans rb e dp w (fun w2 v x => VE (fun b => w.heap.size ≤ b) w2 v x) (minP e part at0 l it) en w' := ⟨_, rfl⟩
 rw [← hPO]
 have HW1 : Hid (w1 = w.alloc (.cells #[.int .i64 0, .int .i64 0, .string ⟨#[]⟩, .slice none 0 0, .int .i64 0] 67)) := hw1
 have HH := hide (Ya h (Ya b1 (Ya q1 s1)))
 have HPO := hide hPO
 have HP := hide hpart
 have HN := hide (Ya (fun x l2 i2 => hnum l it x l2 i2) hbn)
 have hmin : Hid (minP e part at0 l it = (part l it).map fun x => if (ahd e 0 l).kind = 2 then .mk 2 (- x.num) [] [] at0 else opE [45] (.mk 2 0 [] [] at0) x) := rfl
 generalize minP e part at0 l it = mr at HPO hmin
 generalize ahd e 0 l = t at ha HN hmin
 clear h b1 q1 s1 hw1 hPO hpart hnum hbn
 go_enter Tryz.func184, Tryz.ntmps184
 go_wp2_with fail
 rw [← Qa HW1]
 refine ha.mono ?_
 clear ha
 rintro en w2 ⟨rfl, b2⟩
 obtain ⟨h, b1, q1, s1⟩ := Qa HH
 have hs2 := b2.size
 have b02 : Below w.heap.size w w2 := b1.trans (b2.mono (by omega))
 have hop := Qa HP w2 l it (h.later b02)
 have K2 := hide (Ya (Kp.of_below (rb := rb) b02) (Ya ((b2.block _ (by omega)).trans q1) (by omega : w.heap.size + 1 ≤ w2.heap.size)))
 clear h b1 q1 s1 hs2 b2 b02 HH HP
 go_wp2_with fail
 rename_i hK
 refine hK _ _ ?_
 clear hK
 cases hq : part l it with
 | bad why at1 l2 =>
  rw [hq] at hop hmin
  rw [Qa hmin] at HPO
  clear hq hmin HN
  go_wp2_with fail
  refine hop.mono ?_
  clear hop
  rintro en w3 ⟨rfl, k3⟩
  have H3 := hide ((Qa K2).1.trans k3)
  clear k3
  go_wp2_with fail
  refine ⟨rfl, ?_⟩
  rw [Qa HPO]
  exact ⟨rfl, Qa H3⟩
 | ok x l2 i2 =>
  rw [hq] at hop hmin
  have hN1 : t.kind = 2 → x.num = t.num ∧ 0 ≤ t.num ∧ t.num ≤ 9223372036854775807 := fun hk => ⟨(Qa HN).1 x l2 i2 hk hq, (Qa HN).2 hk⟩
  have HN1 := hide hN1
  rw [Qa hmin] at HPO
  clear hq hmin HN hN1
  go_wp2_with fail
  refine hop.mono ?_
  clear hop
  rintro en w4 ⟨_, rfl, ⟨_, rfl, ⟨xa, xn, xc, rfl⟩, hX⟩, hR4, k4⟩
  obtain ⟨k3, q3, s3⟩ := Qa K2
  have hs4 := k4.size
  obtain ⟨w5, hw5⟩ : ∃ w5, w5 = w4.alloc (.cells #[.int .i64 x.kind, .int .i64 x.num, str x.txt, .slice xa xn xc, .int .i64 x.at_] 67) := ⟨_, rfl⟩
  have b5 : Below w4.heap.size w4 w5 := by rw [hw5]; exact (Below.refl _ w4).alloc (Nat.le_refl _) _
  have n5 : w5.heap[w4.heap.size]? = some (.cells #[.int .i64 x.kind, .int .i64 x.num, str x.txt, .slice xa xn xc, .int .i64 x.at_] 67 (0, 0)) := by rw [hw5]; exact heap_alloc_new w4 _
  have hX5 := Qae.same _ _ w5 _ _ hX b5.size (fun b _ hl => b5.block b hl)
  have q5 : w5.heap[w.heap.size]? = some exZ := (b5.block _ (by omega)).trans (k4.keep q3 (by omega))
  have s5 : w5.heap.size = w4.heap.size + 1 := by rw [hw5]; simp
  have k5 : Kp rb w w5 := (k3.trans k4).trans (Kp.of_below b5)
  have hR5 := hR4.later b5
  obtain ⟨z0, z1, z2, z3, z4, zf⟩ := ex5 n5
  have HW5 := hide hw5
  have hg4 : w.heap.size + 1 ≤ w4.heap.size := by omega
  generalize hxb : w4.heap.size = xb at z0 z1 z2 z3 z4 zf
  by_cases hk : t.kind = 2
  ·
   have gk : (t.kind == 2) = true := by simpa using hk
   obtain ⟨e1, e2, e3⟩ := Qa HN1 hk
   rw [← e1] at e2 e3
   obtain ⟨y0, y1, y2, y3, y4, yf⟩ := ex5 q5
   have HF := hide (Qbl (x := .mk 2 (- x.num) [] [] at0) (S := fun _ => False) (gb := w.heap.size) (Qcx _ w5 2 (- x.num) at0 []) (fun b hb => hb.elim) hR5 k5 (Nat.le_refl _) hrb)
   have HPO2 : Hid (PO = fun en w' => Ans rb e dp w (fun w2 v x => VE (fun b => w.heap.size ≤ b) w2 v x) (.ok (.mk 2 (- x.num) [] [] at0) l2 i2) en w') := by
    have := Qa HPO
    rw [Rs.map, if_pos hk] at this
    exact this
   clear hX hR4 k4 k3 q3 s3 hs4 b5 n5 hX5 q5 s5 k5 hR5 hk e1 hg4 HN1 HPO HW5 zf
   subst hw5
   go_wp2_with fail
   refine bodyPost_ret (v := .agg #[.int .i64 2, .int .i64 (- x.num), .string ⟨#[]⟩, .slice none 0 0, .int .i64 at0]) (by simp [results, Tryz.results184, go_sem, y0, y1, y2, y3, y4]) rfl ?_
   rw [Qa HPO2]
   exact ⟨_, rfl, Qa HF _ _ _ _ _⟩
  have gk : (t.kind == 2) = false := by simpa using hk
  have HPO2 : Hid (PO = fun en w' => Ans rb e dp w (fun w2 v x => VE (fun b => w.heap.size ≤ b) w2 v x) (.ok (opE [45] (.mk 2 0 [] [] at0) x) l2 i2) en w') := by
   have := Qa HPO
   rw [Rs.map, if_neg hk] at this
   exact this
  have hopr := Qer (w := w5) (S := fun b => w.heap.size < b) [45] (x := .mk 2 0 [] [] at0) (y := x) (Qcx _ w5 2 0 at0 []) (Qae.mono _ _ _ _ _ hX5 (fun b _ hs => by omega)) ⟨_, _, _, rfl⟩ ⟨_, _, _, rfl⟩ (fun b hb => by omega)
  have K5 := hide (Ya k5 (Ya hR5 q5))
  clear hX hR4 k4 k3 q3 s3 hs4 hw5 b5 n5 hX5 q5 s5 k5 hR5 hk hg4 HN1 HPO
  go_wp2_with fail
  rw [← Qa HW5]
  clear HW5 hxb
  go_wp2_with fail
  refine hopr.mono ?_
  clear hopr
  rintro en w6 ⟨_, rfl, ⟨va, vc, rfl⟩, hO6, b6⟩
  obtain ⟨k5, hR5, q5⟩ := Qa K5
  obtain ⟨y0, y1, y2, y3, y4, yf⟩ := ex5 ((b6.block _ (Qaf q5)).trans q5)
  have HF := hide (Qbl (x := opE [45] (.mk 2 0 [] [] at0) x) (gb := w.heap.size) hO6 (fun b hb => ⟨by omega, by omega⟩) (hR5.later b6) (k5.trans (Kp.of_below b6)) (Nat.le_refl _) hrb)
  clear hO6 b6 k5 hR5 q5
  go_wp2_with fail
  refine bodyPost_ret (v := .agg #[.int .i64 5, .int .i64 0, str [45], .slice va 2 vc, .int .i64 at0]) (by simp [results, Tryz.results184, go_sem, y0, y1, y2, y3, y4, Ex.at_]) rfl ?_
  rw [Qa HPO2]
  exact ⟨_, rfl, Qa HF _ _ _ _ _⟩
end
section
open Go.RowKit Go.Maps
theorem Qlt {rb e dp : Nat} {E : Pr Ex} (h : OpC 144 rb e dp E) : PartE PE rb e dp E := fun w l it hR => by
 refine (h w l it hR).mono ?_
 intro en w' ha
 cases hq : E l it with
 | bad why at0 l2 => rw [hq] at ha; exact ha
 | ok x l2 i2 =>
  rw [hq] at ha
  obtain ⟨v, e1, ⟨xv, e2, ⟨a, n, c, e3⟩, hX⟩, h3, h4⟩ := ha
  subst e3
  exact ⟨v, e1, ⟨_, _, _, _, _, e2, fun c hc => by
   simp only [List.mem_cons, List.not_mem_nil, or_false] at hc
   rcases hc with rfl | rfl | rfl | rfl | rfl <;> rfl, hX⟩, h3, h4⟩

theorem Qmw {rb e dp : Nat} {E F : Pr Ex} (hE : OpC 144 rb e dp E) (hsE : Shr E) (hF : OpC 169 rb e dp F) (hnum : ∀ l it x l2 i2, (ahd e 0 l).kind = 2 → F l it = .ok x l2 i2 → x.num = (ahd e 0 l).num) {w : World} {l : List Tok} {it : Nat} (h : Rd rb e w l it dp) :
  Calls Tryz.prog 177 #[.pointer (some ⟨rb, 0, none⟩)] w fun en w' => Ans rb e dp w (fun w2 v x => VE (fun b => w.heap.size ≤ b) w2 v x) (signed e E F l it) en w' := by
 obtain ⟨w1, hw1⟩ : ∃ w1, w1 = w.alloc exZ := ⟨_, rfl⟩
 have b1 : Below w.heap.size w w1 := by rw [hw1]; exact (Below.refl _ w).alloc (Nat.le_refl _) _
 have q1 : w1.heap[w.heap.size]? = some exZ := by rw [hw1]; exact heap_alloc_new w _
 have s1 : w1.heap.size = w.heap.size + 1 := by rw [hw1]; simp
 have ha := Qak (h.later b1) 0
 unfold tokV at ha
 have hrb := h.lt
 obtain ⟨PO, hPO⟩ : ∃ PO : Ending → World → Prop, PO = fun en w' => Ans rb e dp w (fun w2 v x => VE (fun b => w.heap.size ≤ b) w2 v x) (signed e E F l it) en w' := ⟨_, rfl⟩
 rw [← hPO]
 have HW1 : Hid (w1 = w.alloc (.cells #[.int .i64 0, .int .i64 0, .string ⟨#[]⟩, .slice none 0 0, .int .i64 0] 67)) := hw1
 have HH := hide (Ya h (Ya b1 (Ya q1 s1)))
 have HPO := hide hPO
 have HP := hide (Ya hE (Ya hsE (Ya hF hnum)))
 obtain ⟨t, ht⟩ : ∃ t, t = ahd e 0 l := ⟨_, rfl⟩
 rw [← ht] at ha
 have hsg : Hid (signed e E F l it = (choose e [[45], [40], [36]] l it).bind fun s l2 i => if s = [45] then minP e F t.at_ l2 i else if s = [40] then (E l2 i).bind fun x l i => (want e [41] l i).map fun _ => x else (wordQ e l2 i).bind fun w l3 i => (encl e [40] [41] E l3 i).map fun ks => .mk 6 0 w ks t.at_) := by rw [ht]; rfl
 generalize signed e E F l it = sr at HPO hsg
 clear h b1 q1 s1 hw1 hPO hE hsE hF hnum ht
 go_enter Tryz.func177, Tryz.ntmps177
 go_wp2_with fail
 rw [← Qa HW1]
 refine ha.mono ?_
 clear ha
 rintro en w2 ⟨rfl, b2⟩
 obtain ⟨h, b1, q1, s1⟩ := Qa HH
 have hs2 := b2.size
 obtain ⟨w3, hw3⟩ : ∃ w3, w3 = w2.alloc (.cells #[.string ⟨#[45]⟩, .string ⟨#[40]⟩, .string ⟨#[36]⟩] 9) := ⟨_, rfl⟩
 have b3 : Below w.heap.size w w3 := by rw [hw3]; exact (b1.trans (b2.mono (by omega))).alloc (by omega) _
 have n3 : w3.heap[w2.heap.size]? = some (.cells #[.string ⟨#[45]⟩, .string ⟨#[40]⟩, .string ⟨#[36]⟩] 9 (0, 0)) := by rw [hw3]; exact heap_alloc_new w2 _
 have q3 : w3.heap[w.heap.size]? = some exZ := by rw [hw3, Below.heap_alloc _ _ _ (by omega)]; exact (b2.block _ (by omega)).trans q1
 have s3 : w3.heap.size = w2.heap.size + 1 := by rw [hw3]; simp
 have hsv : SgAt rb w3 (.slice (some ⟨w2.heap.size, 0, none⟩) 3 3) [[45], [40], [36]] := by
  refine ⟨w2.heap.size, 0, 3, rfl, by omega, by omega, fun j x hx => ?_⟩
  rw [Qaa n3]
  match j, hx with
  | 0, hx => simp at hx; subst hx; rfl
  | 1, hx => simp at hx; subst hx; rfl
  | 2, hx => simp at hx; subst hx; rfl
 have hc := Qeh (h.later b3) _ _ hsv (by decide) (by decide)
 have HW3 := hide hw3
 have K3 := hide (Ya (Kp.of_below (rb := rb) b3) (Ya q3 (by omega : w.heap.size + 1 ≤ w3.heap.size)))
 clear h b1 q1 s1 hs2 b2 b3 n3 q3 s3 hw3 HH hsv
 go_wp2_with fail
 rename_i hK
 refine hK _ _ ?_
 clear hK
 cases hq : choose e [[45], [40], [36]] l it with
 | bad why at1 l2 =>
  rw [hq] at hc hsg
  rw [Qa hsg] at HPO
  clear hq hsg
  go_wp2_with fail
  rw [← Qa HW3]
  refine hc.mono ?_
  clear hc
  rintro en w4 ⟨rfl, k4⟩
  have H4 := hide ((Qa K3).1.trans k4)
  clear k4
  go_wp2_with fail
  refine ⟨rfl, ?_⟩
  rw [Qa HPO]
  exact ⟨rfl, Qa H4⟩
 | ok s l2 i2 =>
  rw [hq] at hc hsg
  clear hq
  go_wp2_with fail
  rw [← Qa HW3]
  refine hc.mono ?_
  clear hc
  rintro en w4 ⟨_, rfl, rfl, hR4, k4⟩
  obtain ⟨k3, q3, s3⟩ := Qa K3
  have hs4 := k4.size
  have k04 := k3.trans k4
  have q4 := k4.keep q3 (by omega)
  have hsz : w.heap.size + 1 ≤ w4.heap.size := by omega
  clear K3 HW3 k3 q3 s3 hs4 k4
  by_cases c1 : s = [45]
  ·
   have g1 : (s == [45]) = true := by simpa using c1
   have hE1 : sr = minP e F t.at_ l2 i2 := by rw [Qa hsg]; exact if_pos c1
   rw [hE1] at HPO
   have hm := Qqh (Qa HP).2.2.1 (Qa HP).2.2.2 hR4 t.at_
   have K4 := hide (Ya k04 (Ya q4 hsz))
   clear c1 hE1 hsg hR4 k04 q4 hsz
   cases hq : minP e F t.at_ l2 i2 with
   | bad why at1 l3 =>
    rw [hq] at hm HPO
    clear hq
    go_wp2_with fail
    refine hm.mono ?_
    clear hm
    rintro en w5 ⟨rfl, k5⟩
    have H5 := hide ((Qa K4).1.trans k5)
    clear k5
    go_wp2_with fail
    refine ⟨rfl, ?_⟩
    rw [Qa HPO]
    exact ⟨rfl, Qa H5⟩
   | ok x l3 i3 =>
    rw [hq] at hm HPO
    clear hq
    go_wp2_with fail
    refine hm.mono ?_
    clear hm
    rintro en w5 ⟨_, rfl, ⟨_, rfl, ⟨xa, xn, xc, rfl⟩, hX⟩, hR5, k5⟩
    obtain ⟨k4, q4, hsz⟩ := Qa K4
    obtain ⟨y0, y1, y2, y3, y4, yf⟩ := ex5 (k5.keep q4 (by omega))
    have HF := hide (Qbl (gb := w.heap.size) hX (fun b hb => ⟨by omega, by omega⟩) hR5 (k4.trans k5) (Nat.le_refl _) hrb)
    clear hX hR5 k5 k4 q4 hsz
    go_wp2_with fail
    refine bodyPost_ret (v := .agg #[.int .i64 x.kind, .int .i64 x.num, str x.txt, .slice xa xn xc, .int .i64 x.at_]) (by simp [results, Tryz.results177, go_sem, y0, y1, y2, y3, y4]) rfl ?_
    rw [Qa HPO]
    exact ⟨_, rfl, Qa HF _ _ _ _ _⟩
  have g1 : (s == [45]) = false := by simpa using c1
  by_cases c2 : s = [40]
  ·
   have g2 : (s == [40]) = true := by simpa using c2
   have hE1 : sr = (E l2 i2).bind fun x l i => (want e [41] l i).map fun _ => x := by rw [Qa hsg]; exact (if_neg c1).trans (if_pos c2)
   rw [hE1] at HPO
   have hm := (Qa HP).1 w4 l2 i2 hR4
   have K4 := hide (Ya k04 (Ya q4 hsz))
   clear c1 c2 hE1 hsg hR4 k04 q4 hsz
   cases hq : E l2 i2 with
   | bad why at1 l3 =>
    rw [hq] at hm HPO
    clear hq
    go_wp2_with fail
    refine hm.mono ?_
    clear hm
    rintro en w5 ⟨rfl, k5⟩
    have H5 := hide ((Qa K4).1.trans k5)
    clear k5
    go_wp2_with fail
    refine ⟨rfl, ?_⟩
    rw [Qa HPO]
    exact ⟨rfl, Qa H5⟩
   | ok x l3 i3 =>
    rw [hq] at hm HPO
    clear hq
    go_wp2_with fail
    refine hm.mono ?_
    clear hm
    rintro en w5 ⟨_, rfl, ⟨_, rfl, ⟨xa, xn, xc, rfl⟩, hX⟩, hR5, k5⟩
    obtain ⟨k4, q4, hsz⟩ := Qa K4
    have hs5 := k5.size
    obtain ⟨w6, hw6⟩ : ∃ w6, w6 = w5.alloc (.cells #[.int .i64 x.kind, .int .i64 x.num, str x.txt, .slice xa xn xc, .int .i64 x.at_] 67) := ⟨_, rfl⟩
    have b6 : Below w5.heap.size w5 w6 := by rw [hw6]; exact (Below.refl _ w5).alloc (Nat.le_refl _) _
    have n6 : w6.heap[w5.heap.size]? = some (.cells #[.int .i64 x.kind, .int .i64 x.num, str x.txt, .slice xa xn xc, .int .i64 x.at_] 67 (0, 0)) := by rw [hw6]; exact heap_alloc_new w5 _
    have hX6 := Qae.same _ _ w6 _ _ hX b6.size (fun b _ hl => b6.block b hl)
    have q6 : w6.heap[w.heap.size]? = some exZ := (b6.block _ (by omega)).trans (k5.keep q4 (by omega))
    have k6 : Kp rb w w6 := (k4.trans k5).trans (Kp.of_below b6)
    have hwt := Qbm (hR5.later b6) [41] (by decide)
    have HW6 := hide hw6
    have K6 := hide (Ya k6 (Ya n6 (Ya hX6 (Ya q6 (Ya hsz (by omega : w.heap.size + 1 ≤ w5.heap.size))))))
    generalize hxb : w5.heap.size = xb at K6
    clear hX hR5 k5 k4 q4 hsz hs5 hw6 b6 n6 hX6 q6 k6 K4
    cases hq : want e [41] l3 i3 with
    | bad why at1 l4 =>
     have HPO2 : Hid (PO = fun en w' => Ans rb e dp w (fun w2 v x => VE (fun b => w.heap.size ≤ b) w2 v x) (.bad why at1 l4) en w') := by
      have := Qa HPO
      rw [Rs.bind, hq] at this
      exact this
     rw [hq] at hwt
     clear hq HPO
     go_wp2_with fail
     rw [← Qa HW6]
     refine hwt.mono ?_
     clear hwt
     rintro en w7 ⟨rfl, k7⟩
     have H7 := hide ((Qa K6).1.trans k7)
     clear k7
     go_wp2_with fail
     refine ⟨rfl, ?_⟩
     rw [Qa HPO2]
     exact ⟨rfl, Qa H7⟩
    | ok u l4 i4 =>
     have HPO2 : Hid (PO = fun en w' => Ans rb e dp w (fun w2 v x => VE (fun b => w.heap.size ≤ b) w2 v x) (.ok x l4 i4) en w') := by
      have := Qa HPO
      rw [Rs.bind, hq] at this
      exact this
     rw [hq] at hwt
     clear hq HPO
     go_wp2_with fail
     rw [← Qa HW6]
     refine hwt.mono ?_
     clear hwt
     rintro en w7 ⟨_, rfl, rfl, hR7, k7⟩
     obtain ⟨k6, n6, hX6, q6, g3, g4⟩ := Qa K6
     obtain ⟨z0, z1, z2, z3, z4, zf⟩ := ex5 (k7.keep n6 (by omega))
     have hX7 := Qae.same _ _ w7 _ _ hX6 k7.size (fun b hs hl => k7.block b hl (by omega))
     obtain ⟨y0, y1, y2, y3, y4, yf⟩ := ex5 (k7.keep q6 (by omega))
     have HF := hide (Qbl (gb := w.heap.size) hX7 (fun b hb => ⟨by omega, by omega⟩) hR7 (k6.trans k7) (Nat.le_refl _) hrb)
     clear hR7 k7 k6 n6 hX6 q6 g3 g4 hX7 zf HW6 hxb
     go_wp2_with fail
     refine bodyPost_ret (v := .agg #[.int .i64 x.kind, .int .i64 x.num, str x.txt, .slice xa xn xc, .int .i64 x.at_]) (by simp [results, Tryz.results177, go_sem, y0, y1, y2, y3, y4]) rfl ?_
     rw [Qa HPO2]
     exact ⟨_, rfl, Qa HF _ _ _ _ _⟩
  have g2 : (s == [40]) = false := by simpa using c2
  have hE1 : sr = (wordQ e l2 i2).bind fun w l3 i => (encl e [40] [41] E l3 i).map fun ks => .mk 6 0 w ks t.at_ := by rw [Qa hsg]; exact (if_neg c1).trans (if_neg c2)
  rw [hE1] at HPO
  have hm := Qbu hR4
  have K4 := hide (Ya k04 (Ya q4 hsz))
  clear c1 c2 hE1 hsg hR4 k04 q4 hsz
  cases hq : wordQ e l2 i2 with
  | bad why at1 l3 =>
   rw [hq] at hm HPO
   clear hq
   go_wp2_with fail
   refine hm.mono ?_
   clear hm
   rintro en w5 ⟨rfl, k5⟩
   have H5 := hide ((Qa K4).1.trans k5)
   clear k5
   go_wp2_with fail
   refine ⟨rfl, ?_⟩
   rw [Qa HPO]
   exact ⟨rfl, Qa H5⟩
  | ok wd l3 i3 =>
   rw [hq] at hm HPO
   clear hq
   go_wp2_with fail
   refine hm.mono ?_
   clear hm
   rintro en w5 ⟨_, rfl, rfl, hR5, k5⟩
   obtain ⟨k4, q4, hsz⟩ := Qa K4
   have hs5 := k5.size
   obtain ⟨w6, hw6⟩ : ∃ w6, w6 = w5.alloc (.cells #[.int .i64 6, .int .i64 0, str wd, .slice none 0 0, .int .i64 (t.at_ : Int)] 67) := ⟨_, rfl⟩
   have b6 : Below w5.heap.size w5 w6 := by rw [hw6]; exact (Below.refl _ w5).alloc (Nat.le_refl _) _
   have n6 : w6.heap[w5.heap.size]? = some (.cells #[.int .i64 6, .int .i64 0, str wd, .slice none 0 0, .int .i64 (t.at_ : Int)] 67 (0, 0)) := by rw [hw6]; exact heap_alloc_new w5 _
   have q6 : w6.heap[w.heap.size]? = some exZ := (b6.block _ (by omega)).trans (k5.keep q4 (by omega))
   have s6 : w6.heap.size = w5.heap.size + 1 := by rw [hw6]; simp
   have k6 : Kp rb w w6 := (k4.trans k5).trans (Kp.of_below b6)
   have hen := Qij PE Qae (Qlt (Qa HP).1) (Qa HP).2.1 (hR5.later b6) [40] [41] (by decide) (by decide)
   have HW6 := hide hw6
   have K6 := hide (Ya k6 (Ya n6 (Ya q6 (Ya (by omega : w.heap.size + 1 ≤ w5.heap.size) s6))))
   generalize hxb : w5.heap.size = xb at K6
   clear hR5 k5 k4 q4 hsz hs5 hw6 b6 n6 q6 k6 K4 s6
   cases hq : encl e [40] [41] E l3 i3 with
   | bad why at1 l4 =>
    have HPO2 : Hid (PO = fun en w' => Ans rb e dp w (fun w2 v x => VE (fun b => w.heap.size ≤ b) w2 v x) (.bad why at1 l4) en w') := by
     have := Qa HPO
     rw [Rs.bind, hq] at this
     exact this
    rw [hq] at hen
    clear hq HPO
    go_wp2_with fail
    rw [← Qa HW6]
    refine hen.mono ?_
    clear hen
    rintro en w7 ⟨rfl, k7⟩
    have H7 := hide ((Qa K6).1.trans k7)
    clear k7
    go_wp2_with fail
    refine ⟨rfl, ?_⟩
    rw [Qa HPO2]
    exact ⟨rfl, Qa H7⟩
   | ok ks l4 i4 =>
    have HPO2 : Hid (PO = fun en w' => Ans rb e dp w (fun w2 v x => VE (fun b => w.heap.size ≤ b) w2 v x) (.ok (.mk 6 0 wd ks t.at_) l4 i4) en w') := by
     have := Qa HPO
     rw [Rs.bind, hq] at this
     exact this
    rw [hq] at hen
    clear hq HPO
    go_wp2_with fail
    rw [← Qa HW6]
    refine hen.mono ?_
    clear hen
    rintro en w7 ⟨_, rfl, hL, hR7, k7⟩
    obtain ⟨ka, kc, _, ev, _⟩ := id hL
    subst ev
    obtain ⟨k6, n6, q6, g3, s6⟩ := Qa K6
    have n7 := k7.keep n6 (by omega)
    have q7 := k7.keep q6 (by omega)
    have hne8 : w.heap.size ≠ xb := by omega
    obtain ⟨w8, hw8⟩ : ∃ w8, w8 = w7.setCell ⟨xb, 3, none⟩ (.slice ka ks.length kc) := ⟨_, rfl⟩
    have n8 : w8.heap[xb]? = some (.cells #[.int .i64 6, .int .i64 0, str wd, .slice ka ks.length kc, .int .i64 (t.at_ : Int)] 67 (0, 0)) := by rw [hw8]; exact (Qac n7 3 _).trans rfl
    have q8 : w8.heap[w.heap.size]? = some exZ := by rw [hw8, hpS hne8]; exact q7
    have k8 : Kp rb w w8 := by rw [hw8]; exact (k6.trans k7).set2 (by omega)
    have hR8 : Rd rb e w8 l4 i4 dp := by rw [hw8]; exact hR7.set2 (by omega)
    have hL8 : LsAt PE 5 (fun b => w6.heap.size ≤ b) w8 (.slice ka ks.length kc) ks := by
     refine hL.same Qae (by rw [hw8]; simp [World.setCell]) (fun b hb hl => ?_)
     have hb' : w6.heap.size ≤ b := hb
     have hn : b ≠ xb := by omega
     rw [hw8, hpS hn]
    obtain ⟨x0, x1, x2, x3, x4, xf⟩ := ex5 n7
    obtain ⟨z0, z1, z2, z3, z4, zf⟩ := ex5 n8
    obtain ⟨y0, y1, y2, y3, y4, yf⟩ := ex5 q8
    have HF := hide (Qbl (x := .mk 6 0 wd ks t.at_) (gb := w.heap.size) (Qou hL8) (fun b hb => ⟨by omega, by omega⟩) hR8 k8 (Nat.le_refl _) hrb)
    clear hR7 k7 k6 n6 q6 g3 n7 q7 n8 q8 k8 hR8 hL8 hL HW6 hxb x0 x1 x2 x4 zf s6 hne8
    subst hw8
    go_wp2_with fail
    refine bodyPost_ret (v := .agg #[.int .i64 6, .int .i64 0, str wd, .slice ka ks.length kc, .int .i64 t.at_]) (by simp [results, Tryz.results177, go_sem, y0, y1, y2, y3, y4]) rfl ?_
    rw [Qa HPO2]
    exact ⟨_, rfl, Qa HF _ _ _ _ _⟩
end
end Go.Proofs.YtccehgfecaamoaaGreatDoor
