/- syn: a row of operands with operators between. syn: an expression stored; term. syn: expr. syn: variable. syn: minus. -/
import Derived.Test.YtccehgfecaamoaaGreatDoorQb08
set_option maxRecDepth 100000
set_option maxHeartbeats 32000000
namespace Go.Proofs.YtccehgfecaamoaaGreatDoor
section
open Go.RowKit Go.Maps
theorem Qjr (F : Nat) (eF : ∀ (args : Array Value) (w : World), (callFunc F args).run Tryz.prog w = .ok (.enter F args) w) {rb e dp : Nat} {part : Pr Ex} (hpart : OpC F rb e dp part) (hshr : Shr part) {w : World} {l : List Tok} {it : Nat} (h : Rd rb e w l it dp) (sv : Value) (signs : List Txt) (hsv : SgAt rb w sv signs) (hsl : signs.length ≤ 100) (hne : [] ∉ signs) :
  Calls Tryz.prog 160 #[.pointer (some ⟨rb, 0, none⟩), .func (.func F) #[.pointer (some ⟨rb, 0, none⟩)] #[], sv] w fun en w' => Ans rb e dp w (fun w2 v x => VE (fun b => w.heap.size ≤ b) w2 v x) (joined e part signs l it) en w' := by
 have mixed : Tryz.prog.follows .mixedOrders = true := by kernel_rfl
 obtain ⟨w1, hw1⟩ : ∃ w1, w1 = w.alloc exZ := ⟨_, rfl⟩
 have b1 : Below w.heap.size w w1 := bnw hw1
 have q1 : w1.heap[w.heap.size]? = some exZ := nnw hw1
 have s1 : w1.heap.size = w.heap.size + 1 := by rw [hw1]; simp
 have hc := hpart w1 l it (h.later b1)
 obtain ⟨PO, hPO⟩ : ∃ PO : Ending → World → Prop, PO = fun en w' => Ans rb e dp w (fun w2 v x => VE (fun b => w.heap.size ≤ b) w2 v x) (joined e part signs l it) en w' := ⟨_, rfl⟩
 rw [← hPO]
 unfold joined at hPO
 have hrb := h.lt
 obtain ⟨sb, so, sc, esv, _⟩ := id hsv
 subst esv
 have HSV := hide hsv
 have HP := hide (Ya hpart (Ya hshr (Ya hsl hne)))
 have K1 := hide (Ya b1 (Ya q1 (Ya s1 hsv)))
 have HW1 : Hid (w1 = w.alloc (.cells #[.int .i64 0, .int .i64 0, .string ⟨#[]⟩, .slice none 0 0, .int .i64 0] 67)) := hw1
 clear hpart hshr h b1 q1 s1 hw1 hsv
 cases hq : part l it with
 | bad why at0 l2 =>
  rw [hq] at hc hPO
  have HPO := hide hPO
  clear hPO hq
  go_enter Tryz.func160, Tryz.ntmps160
  go_wp2_with fail
  rw [← Qa HW1]
  refine hc.mono ?_
  clear hc
  rintro en w2 ⟨rfl, k2⟩
  have H2 := hide ((Kp.of_below (Qa K1).1).trans k2)
  clear k2
  go_wp2_with fail
  refine ⟨rfl, ?_⟩
  rw [Qa HPO]
  exact ⟨rfl, Qa H2⟩
 | ok x l2 i2 =>
  rw [hq] at hc hPO
  obtain ⟨r0, hr0⟩ : ∃ r0, r0 = joinL e part signs (l2.length + 1) x l2 i2 := ⟨_, rfl⟩
  have hPO2 : PO = fun en w' => Ans rb e dp w (fun w2 v x => VE (fun b => w.heap.size ≤ b) w2 v x) r0 en w' := by rw [hr0]; exact hPO
  have HPO := hide hPO2
  have HR0 := hide hr0
  clear hPO hPO2 hq hr0
  go_enter Tryz.func160, Tryz.ntmps160
  go_wp2_with fail
  rw [← Qa HW1]
  refine hc.mono ?_
  clear hc
  rintro en w2 ⟨_, rfl, ⟨_, rfl, ⟨xa, xn, xc, rfl⟩, hX⟩, hR2, k2⟩
  obtain ⟨b1, q1, s1, hsv⟩ := Qa K1
  have k02 : Kp rb w w2 := (Kp.of_below b1).trans k2
  obtain ⟨w3, hw3⟩ : ∃ w3, w3 = w2.alloc (.cells #[.int .i64 x.kind, .int .i64 x.num, str x.txt, .slice xa xn xc, .int .i64 x.at_] 67) := ⟨_, rfl⟩
  have b3 : Below w2.heap.size w2 w3 := bnw hw3
  have n3 : w3.heap[w2.heap.size]? = some (.cells #[.int .i64 x.kind, .int .i64 x.num, str x.txt, .slice xa xn xc, .int .i64 x.at_] 67 (0, 0)) := nnw hw3
  have hs2 := k2.size
  have hst : JI rb e dp signs part r0 w w2.heap.size (.slice (some ⟨sb, so, none⟩) signs.length sc) w3 x l2 i2 (l2.length + 1) :=
   ⟨k02.trans (Kp.of_below b3), hR2.later b3, ⟨xa, xn, xc, n3, Qae.same _ _ w3 _ _ (Qae.mono _ (fun b => w.heap.size < b ∧ b ≠ w2.heap.size) _ _ _ hX (fun b hl hs => ⟨by omega, by omega⟩)) b3.size (fun b _ hl => b3.block b hl)⟩, (b3.block _ (by omega)).trans (k2.keep q1 (by omega)), (hsv.kp k02).kp (Kp.of_below b3), Qa HR0, Nat.le_refl _, by omega⟩
  have HST := hide hst
  have HW3 := hide hw3
  clear hX hR2 k2 b1 q1 s1 hsv k02 b3 n3 hst hw3 K1 HR0
  generalize hxb : w2.heap.size = xb at HST
  go_wp2_with fail
  rw [← Qa HW3]
  clear hxb HW3
  go_loopw [8] (fun _ wr => ∃ x l' it' f, JI rb e dp signs part r0 w xb (.slice (some ⟨sb, so, none⟩) signs.length sc) wr x l' it' f) (fun _ wr => left rb wr)
  case atStart => exact ⟨_, _, _, _, Qa HST⟩
  obtain ⟨x, l', it', f, hJ⟩ := hrel
  clear HST
  obtain ⟨f', rfl⟩ : ∃ f', f = f' + 1 := ⟨f - 1, by have := hJ.fuel; omega⟩
  have hg := Qdv hJ.rd
  have HC : Hid (∀ u, Below wr.heap.size wr u → Calls Tryz.prog 141 #[.slice (some ⟨sb, so, none⟩) signs.length sc, str (sgn e l')] u fun en w' => en = .returned (.bool (decide (sgn e l' ∈ signs))) ∧ w' = u) := fun u hu => Qhc (hJ.sg.kp (Kp.of_below hu)) (Qa HP).2.2.1 _
  by_cases hS : sgn e l' ∈ signs
  ·
   obtain ⟨t, l3, el, hq2⟩ := Qci (s := sgn e l') rfl (fun e => (Qa HP).2.2.2 (e ▸ hS))
   clear hq2
   subst el
   rw [decide_eq_true hS] at HC
   have HJ := hide (Ya hJ hS)
   generalize sgn e (t :: l3) = g at hg HC
   clear hJ hS
   go_wp2_with fail
   refine hg.mono ?_
   clear hg
   rintro en w4 ⟨rfl, b4⟩
   have hc := Qa HC w4 b4
   have htk : Calls Tryz.prog 110 #[.pointer (some ⟨rb, 0, none⟩)] w4 fun en w' => en = .returned (.agg #[.int .i64 t.kind, str t.text, .int .i64 t.num, .int .i64 (t.at_ : Int)]) ∧ Rd rb e w' l3 it' dp ∧ Kp rb w4 w' := Qbu ((Qa HJ).1.rd.later b4)
   have B4 := hide b4
   clear b4 HC
   go_wp2_with fail
   refine hc.mono ?_
   clear hc
   rintro en w5 ⟨rfl, hw5⟩
   subst hw5
   go_wp2_with fail
   refine htk.mono ?_
   clear htk
   rintro en w6 ⟨rfl, hR6, k6⟩
   have K6 := hide (Ya ((Kp.of_below (Qa B4)).trans k6) hR6)
   clear hR6 k6 B4
   go_wp2_with fail
   rename_i hK
   refine hK _ _ ?_
   clear hK
   go_wp2_with fail
   obtain ⟨hJ, hS⟩ := Qa HJ
   obtain ⟨k6, hR6⟩ := Qa K6
   obtain ⟨xa, xn, xc, hbx, hX⟩ := hJ.box
   have hbx6 := k6.keep hbx (by have := hJ.xb1; omega)
   have hop := (Qa HP).1 w6.drew l3 it' (hR6.later ((Below.refl _ w6).drew))
   have hE : r0 = (part l3 it').bind fun y l2 i => joinL e part signs f' (opE t.text x y) l2 i := by
    rw [hJ.eq]
    conv => lhs; unfold joinL
    rw [if_pos hS]; rfl
   have hxl : xb < w6.heap.size := Qag hbx6
   have hxw := hJ.xb1
   have HBX : Hid (∀ u, Kp rb w6 u → u.heap[xb]? = some (.cells #[.int .i64 x.kind, .int .i64 x.num, str x.txt, .slice xa xn xc, .int .i64 x.at_] 67 (0, 0))) := fun u ku => ku.keep hbx6 (by omega)
   have kw6 : Kp rb w w6 := hJ.kp.trans k6
   have hres6 := k6.keep hJ.res (by omega)
   have hsg6 := hJ.sg.kp k6
   have hX6 := Qae.same _ _ w6 _ _ hX k6.size (fun b hs hl => k6.block b hl (by omega))
   have hfu := hJ.fuel
   have hlf := Qbz hJ.rd
   have H6 := hide (Ya kw6 (Ya hres6 (Ya hsg6 hX6)))
   clear hJ hS k6 hR6 hbx hX hbx6 kw6 hres6 hsg6 hX6 HJ K6
   cases hq : part l3 it' with
   | bad why at0 l4 =>
    rw [hq] at hop hE
    have HE := hide hE
    clear hE hq
    refine Qax (m := 5) (ml := [(0, 1), (1, 2), (2, 1), (3, 0), (4, 0), (5, 0)]) (fun f w' => f = false → w'.heap[xb]? = some (.cells #[.int .i64 x.kind, .int .i64 x.num, str x.txt, .slice xa xn xc, .int .i64 x.at_] 67 (0, 0))) mixed (by kernel_rfl) rfl (by rfl) (by kernel_rfl) (fun c a d v w h => by cases d <;> exact h) (fun PP PQ hPP hPQ => ?_)
    refine Qac rfl (by kernel_rfl) (fun _ _ _ => by go_simp <;> rfl) ?_
    refine Qbl (v := ?_) rfl (by kernel_rfl) (fun w' hw => ?_) ?_
    rotate_left
    · (have q := hw rfl; have z0 := (Qab q 0).trans (show _ = some (.int .i64 x.kind) from rfl); have z1 := (Qab q 1).trans (show _ = some (.int .i64 x.num) from rfl); have z2 := (Qab q 2).trans (show _ = some (str x.txt) from rfl); have z3 := (Qab q 3).trans (show _ = some (.slice xa xn xc) from rfl); have z4 := (Qab q 4).trans (show _ = some (.int .i64 x.at_) from rfl); go_simp <;> rfl)
    refine Qac rfl (by kernel_rfl) (fun _ _ _ => by go_simp <;> rfl) ?_
    refine Qaf rfl (fun _ => Qa HBX _ (Kp.of_below ((Below.refl _ w6).drew))) (fun K hK => ?_)
    go_simp
    refine hop.mono ?_
    clear hop
    rintro en w7 ⟨rfl, k7⟩
    have H7 := hide (((Qa H6).1.trans (Kp.of_below ((Below.refl _ w6).drew))).trans k7)
    clear k7
    go_wp2_with fail
    show PQ _ _ _
    refine hPQ _ _ _ ⟨rfl, ?_⟩
    rw [Qa HPO, Qa HE]
    exact ⟨rfl, Qa H7⟩
   | ok y l4 i4 =>
    have hle := (Qa HP).2.1 _ _ _ _ _ hq
    rw [hq] at hop hE
    have HE := hide hE
    clear hE hq
    refine Qax (m := 5) (ml := [(0, 1), (1, 2), (2, 1), (3, 0), (4, 0), (5, 0)]) (fun f w' => f = false → w'.heap[xb]? = some (.cells #[.int .i64 x.kind, .int .i64 x.num, str x.txt, .slice xa xn xc, .int .i64 x.at_] 67 (0, 0))) mixed (by kernel_rfl) rfl (by rfl) (by kernel_rfl) (fun c a d v w h => by cases d <;> exact h) (fun PP PQ hPP hPQ => ?_)
    refine Qac rfl (by kernel_rfl) (fun _ _ _ => by go_simp <;> rfl) ?_
    refine Qbl (v := ?_) rfl (by kernel_rfl) (fun w' hw => ?_) ?_
    rotate_left
    · (have q := hw rfl; have z0 := (Qab q 0).trans (show _ = some (.int .i64 x.kind) from rfl); have z1 := (Qab q 1).trans (show _ = some (.int .i64 x.num) from rfl); have z2 := (Qab q 2).trans (show _ = some (str x.txt) from rfl); have z3 := (Qab q 3).trans (show _ = some (.slice xa xn xc) from rfl); have z4 := (Qab q 4).trans (show _ = some (.int .i64 x.at_) from rfl); go_simp <;> rfl)
    refine Qac rfl (by kernel_rfl) (fun _ _ _ => by go_simp <;> rfl) ?_
    refine Qaf rfl (fun _ => Qa HBX _ (Kp.of_below ((Below.refl _ w6).drew))) (fun K hK => ?_)
    go_simp
    refine hop.mono ?_
    clear hop
    rintro en w7 ⟨_, rfl, ⟨_, rfl, ⟨ya, yn, yc, rfl⟩, hY⟩, hR7, k7'⟩
    have k7 : Kp rb w6 w7 := (Kp.of_below ((Below.refl _ w6).drew)).trans k7'
    have hs7 := k7.size
    have hX7 := Qae.same _ _ w7 _ _ (Qa H6).2.2.2 k7.size (fun b hs hl => k7.block b hl (by omega))
    have hY7 := Qae.mono _ (fun b => w.heap.size < b ∧ b ≠ xb) _ _ _ hY (fun b _ hs => by have e0 : w6.drew.heap.size = w6.heap.size := rfl; exact ⟨by omega, by omega⟩)
    have hopr := Qhf t.text hX7 hY7 ⟨_, _, _, rfl⟩ ⟨_, _, _, rfl⟩ (fun b hb => ⟨by omega, by omega⟩)
    have H7 := hide (Ya hR7 k7)
    clear hY hX7 hY7 hR7 k7' k7
    go_wp2_with fail
    refine Qaf rfl (fun _ => Qa HBX _ (Qa H7).2) (fun K hK => ?_)
    go_simp
    refine hopr.mono ?_
    clear hopr
    rintro en w8 ⟨_, rfl, ⟨va, vc, rfl⟩, hO8, b8⟩
    have k8 : Kp rb w6 w8 := (Qa H7).2.trans (Kp.of_below b8)
    have q8 := Qa HBX w8 k8
    have z0 := (Qab q8 0).trans (show _ = some (.int .i64 x.kind) from rfl)
    have z1 := (Qab q8 1).trans (show _ = some (.int .i64 x.num) from rfl)
    have z2 := (Qab q8 2).trans (show _ = some (str x.txt) from rfl)
    have z3 := (Qab q8 3).trans (show _ = some (.slice xa xn xc) from rfl)
    have z4 := (Qab q8 4).trans (show _ = some (.int .i64 x.at_) from rfl)
    have zf : ∀ o, w8.frozen? ⟨xb, o, none⟩ = false := fun o => by simp [World.frozen?, q8]
    have H8 := hide (Ya k8 (Ya hO8 (Ya ((Qa H7).1.later b8) q8)))
    clear hO8 b8 k8 q8
    go_wp2_with fail
    refine Qaf rfl (fun _ => (Qa H8).2.2.2) (fun K hK => ?_)
    go_simp
    have hN : JI rb e dp signs part r0 w xb (.slice (some ⟨sb, so, none⟩) signs.length sc) (((((w8.setCell ⟨xb, 0, none⟩ (.int .i64 5)).setCell ⟨xb, 1, none⟩ (.int .i64 0)).setCell ⟨xb, 2, none⟩ (str t.text)).setCell ⟨xb, 3, none⟩ (.slice va 2 vc)).setCell ⟨xb, 4, none⟩ (.int .i64 x.at_)) (opE t.text x y) l4 i4 f' := by
     obtain ⟨k8, hO8, hR8, q8⟩ := Qa H8
     have kk : Kp rb w (((((w8.setCell ⟨xb, 0, none⟩ (.int .i64 5)).setCell ⟨xb, 1, none⟩ (.int .i64 0)).setCell ⟨xb, 2, none⟩ (str t.text)).setCell ⟨xb, 3, none⟩ (.slice va 2 vc)).setCell ⟨xb, 4, none⟩ (.int .i64 x.at_)) := ((((((Qa H6).1.trans k8).set2 (by omega)).set2 (by omega)).set2 (by omega)).set2 (by omega)).set2 (by omega)
     have hsame : ∀ b, b ≠ xb → (((((w8.setCell ⟨xb, 0, none⟩ (.int .i64 5)).setCell ⟨xb, 1, none⟩ (.int .i64 0)).setCell ⟨xb, 2, none⟩ (str t.text)).setCell ⟨xb, 3, none⟩ (.slice va 2 vc)).setCell ⟨xb, 4, none⟩ (.int .i64 x.at_)).heap[b]? = w8.heap[b]? := fun b hb => by
      rw [hpS hb, hpS hb, hpS hb, hpS hb, hpS hb]
     refine ⟨kk, ((((hR8.set2 (by omega)).set2 (by omega)).set2 (by omega)).set2 (by omega)).set2 (by omega), ⟨va, 2, vc, ?_, ?_⟩, ?_, (Qa HSV).kp kk, Qa HE, by simp at hfu; omega, hxw⟩
     · exact (Qad (Qad (Qad (Qad (Qad q8 0 _) 1 _) 2 _) 3 _) 4 _).trans rfl
     · exact Qae.same _ _ _ _ _ hO8 (by simp [World.setCell]) (fun b hs hl => hsame b hs.2)
     rw [hsame _ (by omega)]
     exact k8.keep (Qa H6).2.1 (by omega)
    have hl9 := Qbz hN.rd
    have HN := hide hN
    have HL9 := hide (Ya hl9 (Ya hlf hle))
    clear hN hl9 H8 H7 H6 HE z0 z1 z2 z3 z4 zf
    refine hK _ _ ?_
    clear hK K
    refine Qbx (fun h => by cases h) (hPP _ _ ?_)
    clear hPP hPQ
    go_wp2_with fail
    go_roundw
    case rel => exact ⟨_, _, _, _, Qa HN⟩
    obtain ⟨r1, r2, r3⟩ := Qa HL9
    rw [r1, r2]
    simp; omega
  rw [decide_eq_false hS] at HC
  have hE : r0 = .ok x l' it' := by
   rw [hJ.eq]
   unfold joinL
   rw [if_neg hS]
  have HJ := hide (Ya hJ hE)
  generalize sgn e l' = g at hg HC
  clear hJ hS hE
  go_wp2_with fail
  refine hg.mono ?_
  clear hg
  rintro en w4 ⟨rfl, b4⟩
  have hc := Qa HC w4 b4
  obtain ⟨hJ, hE⟩ := Qa HJ
  obtain ⟨xa, xn, xc, hbx, hX⟩ := hJ.box
  have hbx4 := (b4.block _ (Qag hbx)).trans hbx
  have hres4 := (b4.block _ (Qag hJ.res)).trans hJ.res
  have z0 := (Qab hbx4 0).trans (show _ = some (.int .i64 x.kind) from rfl)
  have z1 := (Qab hbx4 1).trans (show _ = some (.int .i64 x.num) from rfl)
  have z2 := (Qab hbx4 2).trans (show _ = some (str x.txt) from rfl)
  have z3 := (Qab hbx4 3).trans (show _ = some (.slice xa xn xc) from rfl)
  have z4 := (Qab hbx4 4).trans (show _ = some (.int .i64 x.at_) from rfl)
  have y0 := (Qab hres4 0).trans (show _ = some (.int .i64 0) from rfl)
  have y1 := (Qab hres4 1).trans (show _ = some (.int .i64 0) from rfl)
  have y2 := (Qab hres4 2).trans (show _ = some (.string ⟨#[]⟩) from rfl)
  have y3 := (Qab hres4 3).trans (show _ = some (.slice none 0 0) from rfl)
  have y4 := (Qab hres4 4).trans (show _ = some (.int .i64 0) from rfl)
  have yf : ∀ o, w4.frozen? ⟨w.heap.size, o, none⟩ = false := fun o => by simp [World.frozen?, hres4]
  have hxw := hJ.xb1
  have HF : Hid (∀ q0 q1 q2 q3 q4, VE (fun b => w.heap.size ≤ b) (((((w4.setCell ⟨w.heap.size, 0, none⟩ q0).setCell ⟨w.heap.size, 1, none⟩ q1).setCell ⟨w.heap.size, 2, none⟩ q2).setCell ⟨w.heap.size, 3, none⟩ q3).setCell ⟨w.heap.size, 4, none⟩ q4) (.agg #[.int .i64 x.kind, .int .i64 x.num, str x.txt, .slice xa xn xc, .int .i64 x.at_]) x ∧ Rd rb e (((((w4.setCell ⟨w.heap.size, 0, none⟩ q0).setCell ⟨w.heap.size, 1, none⟩ q1).setCell ⟨w.heap.size, 2, none⟩ q2).setCell ⟨w.heap.size, 3, none⟩ q3).setCell ⟨w.heap.size, 4, none⟩ q4) l' it' dp ∧ Kp rb w (((((w4.setCell ⟨w.heap.size, 0, none⟩ q0).setCell ⟨w.heap.size, 1, none⟩ q1).setCell ⟨w.heap.size, 2, none⟩ q2).setCell ⟨w.heap.size, 3, none⟩ q3).setCell ⟨w.heap.size, 4, none⟩ q4)) := fun q0 q1 q2 q3 q4 => by
   have hsame : ∀ b, b ≠ w.heap.size → (((((w4.setCell ⟨w.heap.size, 0, none⟩ q0).setCell ⟨w.heap.size, 1, none⟩ q1).setCell ⟨w.heap.size, 2, none⟩ q2).setCell ⟨w.heap.size, 3, none⟩ q3).setCell ⟨w.heap.size, 4, none⟩ q4).heap[b]? = w4.heap[b]? := fun b hb => by
    rw [hpS hb, hpS hb, hpS hb, hpS hb, hpS hb]
   have h4 := Qae.same _ _ w4 _ _ hX b4.size (fun b _ hl => b4.block b hl)
   have h5 := Qae.same _ _ (((((w4.setCell ⟨w.heap.size, 0, none⟩ q0).setCell ⟨w.heap.size, 1, none⟩ q1).setCell ⟨w.heap.size, 2, none⟩ q2).setCell ⟨w.heap.size, 3, none⟩ q3).setCell ⟨w.heap.size, 4, none⟩ q4) _ _ h4 (by simp [World.setCell]) (fun b hs _ => hsame b (by omega))
   exact ⟨⟨_, rfl, ⟨_, _, _, rfl⟩, Qae.mono _ _ _ _ _ h5 (fun b _ hs => by omega)⟩, (((((hJ.rd.later b4).set2 (by omega)).set2 (by omega)).set2 (by omega)).set2 (by omega)).set2 (by omega), (((((hJ.kp.trans (Kp.of_below b4)).set2 (Nat.le_refl _)).set2 (Nat.le_refl _)).set2 (Nat.le_refl _)).set2 (Nat.le_refl _)).set2 (Nat.le_refl _)⟩
  have HE := hide hE
  clear b4 HC hJ hE hbx hX hbx4 hres4 HJ
  go_wp2_with fail
  refine hc.mono ?_
  clear hc
  rintro en w5 ⟨rfl, hw5⟩
  subst hw5
  go_wp2_with fail
  refine bodyPost_ret (v := .agg #[.int .i64 x.kind, .int .i64 x.num, str x.txt, .slice xa xn xc, .int .i64 x.at_]) (by simp [results, Tryz.results160, go_sem, y0, y1, y2, y3, y4]) rfl ?_
  rw [Qa HPO, Qa HE]
  exact ⟨_, rfl, Qa HF _ _ _ _ _⟩
end
section
open Go.RowKit Go.Maps
theorem ex5 {w : World} {b : Nat} {v0 v1 v2 v3 v4 : Value} (h : w.heap[b]? = some (.cells #[v0, v1, v2, v3, v4] 67 (0, 0))) :
  w.cell? ⟨b, 0, none⟩ = some v0 ∧ w.cell? ⟨b, 1, none⟩ = some v1 ∧ w.cell? ⟨b, 2, none⟩ = some v2 ∧ w.cell? ⟨b, 3, none⟩ = some v3 ∧ w.cell? ⟨b, 4, none⟩ = some v4 ∧ ∀ o, w.frozen? ⟨b, o, none⟩ = false :=
 ⟨(Qab h 0).trans rfl, (Qab h 1).trans rfl, (Qab h 2).trans rfl, (Qab h 3).trans rfl, (Qab h 4).trans rfl, fun o => by simp [World.frozen?, h]⟩
theorem Qcg {rb e dp : Nat} {w w4 : World} {l : List Tok} {it : Nat} {x : Ex} {S : Nat → Prop} {gb : Nat} {xa : Option Addr} {xn xc : Nat} (hX : ExS S w4 [.int .i64 x.kind, .int .i64 x.num, str x.txt, .slice xa xn xc, .int .i64 x.at_] x) (hS : ∀ b, S b → w.heap.size ≤ b ∧ b ≠ gb) (hR : Rd rb e w4 l it dp) (k : Kp rb w w4) (hg : w.heap.size ≤ gb) (hrb : rb < w.heap.size) (q0 q1 q2 q3 q4 : Value) :
  VE (fun b => w.heap.size ≤ b) (((((w4.setCell ⟨gb, 0, none⟩ q0).setCell ⟨gb, 1, none⟩ q1).setCell ⟨gb, 2, none⟩ q2).setCell ⟨gb, 3, none⟩ q3).setCell ⟨gb, 4, none⟩ q4) (.agg #[.int .i64 x.kind, .int .i64 x.num, str x.txt, .slice xa xn xc, .int .i64 x.at_]) x ∧ Rd rb e (((((w4.setCell ⟨gb, 0, none⟩ q0).setCell ⟨gb, 1, none⟩ q1).setCell ⟨gb, 2, none⟩ q2).setCell ⟨gb, 3, none⟩ q3).setCell ⟨gb, 4, none⟩ q4) l it dp ∧ Kp rb w (((((w4.setCell ⟨gb, 0, none⟩ q0).setCell ⟨gb, 1, none⟩ q1).setCell ⟨gb, 2, none⟩ q2).setCell ⟨gb, 3, none⟩ q3).setCell ⟨gb, 4, none⟩ q4) := by
 have hsame : ∀ b, b ≠ gb → (((((w4.setCell ⟨gb, 0, none⟩ q0).setCell ⟨gb, 1, none⟩ q1).setCell ⟨gb, 2, none⟩ q2).setCell ⟨gb, 3, none⟩ q3).setCell ⟨gb, 4, none⟩ q4).heap[b]? = w4.heap[b]? := fun b hb => by
  rw [hpS hb, hpS hb, hpS hb, hpS hb, hpS hb]
 have h5 := Qae.same _ _ (((((w4.setCell ⟨gb, 0, none⟩ q0).setCell ⟨gb, 1, none⟩ q1).setCell ⟨gb, 2, none⟩ q2).setCell ⟨gb, 3, none⟩ q3).setCell ⟨gb, 4, none⟩ q4) _ _ hX (by simp [World.setCell]) (fun b hs _ => hsame b (hS b hs).2)
 exact ⟨⟨_, rfl, ⟨_, _, _, rfl⟩, Qae.mono _ _ _ _ _ h5 (fun b _ hs => (hS b hs).1)⟩, ((((hR.set2 (by omega)).set2 (by omega)).set2 (by omega)).set2 (by omega)).set2 (by omega), ((((k.set2 (by omega)).set2 (by omega)).set2 (by omega)).set2 (by omega)).set2 (by omega)⟩

theorem Jbp {rb e dp : Nat} {part : Pr Ex} (hpart : OpC 169 rb e dp part) (hshr : Shr part) : OpC 161 rb e dp (joined e part [[42], [47], [37]]) := by
 intro w l it h
 obtain ⟨w1, hw1⟩ : ∃ w1, w1 = w.alloc exZ := ⟨_, rfl⟩
 have b1 : Below w.heap.size w w1 := bnw hw1
 have q1 : w1.heap[w.heap.size]? = some exZ := nnw hw1
 have s1 : w1.heap.size = w.heap.size + 1 := by rw [hw1]; simp
 obtain ⟨w2, hw2⟩ : ∃ w2, w2 = w1.alloc (.cells #[.string ⟨#[42]⟩, .string ⟨#[47]⟩, .string ⟨#[37]⟩] 9) := ⟨_, rfl⟩
 have b2 : Below w.heap.size w w2 := by rw [hw2]; exact b1.alloc b1.size _
 have n2 : w2.heap[w.heap.size + 1]? = some (.cells #[.string ⟨#[42]⟩, .string ⟨#[47]⟩, .string ⟨#[37]⟩] 9 (0, 0)) := by rw [hw2, ← s1]; exact heap_alloc_new w1 _
 have q2 : w2.heap[w.heap.size]? = some exZ := by rw [hw2, Below.heap_alloc _ _ _ (by omega)]; exact q1
 have s2 : w2.heap.size = w.heap.size + 2 := by rw [hw2]; simp; omega
 have hrb := h.lt
 have hsv : SgAt rb w2 (.slice (some ⟨w.heap.size + 1, 0, none⟩) 3 3) [[42], [47], [37]] := by
  refine ⟨w.heap.size + 1, 0, 3, rfl, by omega, by omega, fun j x hx => ?_⟩
  rw [Qab n2]
  match j, hx with
  | 0, hx => simp at hx; subst hx; rfl
  | 1, hx => simp at hx; subst hx; rfl
  | 2, hx => simp at hx; subst hx; rfl
 have hc := Qjr 169 (fun _ _ => rfl) hpart hshr (h.later b2) _ _ hsv (by decide) (by decide)
 obtain ⟨PO, hPO⟩ : ∃ PO : Ending → World → Prop, PO = fun en w' => Ans rb e dp w (fun w2 v x => VE (fun b => w.heap.size ≤ b) w2 v x) (joined e part [[42], [47], [37]] l it) en w' := ⟨_, rfl⟩
 rw [← hPO]
 have HW1 : Hid (w1 = w.alloc (.cells #[.int .i64 0, .int .i64 0, .string ⟨#[]⟩, .slice none 0 0, .int .i64 0] 67)) := hw1
 have HW2 := hide hw2
 have K2 := hide (Ya b2 (Ya q2 s2))
 clear hpart hshr h b1 q1 s1 hw1 hw2 b2 n2 q2 s2 hsv
 cases hq : joined e part [[42], [47], [37]] l it with
 | bad why at0 l2 =>
  rw [hq] at hc hPO
  have HPO := hide hPO
  clear hPO hq
  go_enter Tryz.func161, Tryz.ntmps161
  go_wp2_with fail
  rw [← Qa HW1, ← Qa HW2]
  refine hc.mono ?_
  clear hc
  rintro en w3 ⟨rfl, k3⟩
  have H3 := hide ((Kp.of_below (Qa K2).1).trans k3)
  clear k3
  go_wp2_with fail
  refine ⟨rfl, ?_⟩
  rw [Qa HPO]
  exact ⟨rfl, Qa H3⟩
 | ok x l2 i2 =>
  rw [hq] at hc hPO
  have HPO := hide hPO
  clear hPO hq
  go_enter Tryz.func161, Tryz.ntmps161
  go_wp2_with fail
  rw [← Qa HW1, ← Qa HW2]
  refine hc.mono ?_
  clear hc
  rintro en w3 ⟨_, rfl, ⟨_, rfl, ⟨xa, xn, xc, rfl⟩, hX⟩, hR3, k3⟩
  obtain ⟨b2, q2, s2⟩ := Qa K2
  obtain ⟨y0, y1, y2, y3, y4, yf⟩ := ex5 (k3.keep q2 (by omega))
  have HF := hide (Qcg hX (fun b hb => ⟨by omega, by omega⟩) hR3 ((Kp.of_below b2).trans k3) (Nat.le_refl _) hrb)
  clear hX hR3 k3 b2 q2 s2
  go_wp2_with fail
  refine bodyPost_ret (v := .agg #[.int .i64 x.kind, .int .i64 x.num, str x.txt, .slice xa xn xc, .int .i64 x.at_]) (by simp [results, Tryz.results161, go_sem, y0, y1, y2, y3, y4]) rfl ?_
  rw [Qa HPO]
  exact ⟨_, rfl, Qa HF _ _ _ _ _⟩
end
section
open Go.RowKit Go.Maps
theorem expr_no {rb e : Nat} : OpC 144 rb e 32 (refuse e 4) := by
 intro w l it h
 obtain ⟨w1, hw1⟩ : ∃ w1, w1 = w.alloc exZ := ⟨_, rfl⟩
 have b1 : Below w.heap.size w w1 := bnw hw1
 have hc := Qky (h.later b1)
 have HW1 : Hid (w1 = w.alloc (.cells #[.int .i64 0, .int .i64 0, .string ⟨#[]⟩, .slice none 0 0, .int .i64 0] 67)) := hw1
 obtain ⟨PO, hPO⟩ : ∃ PO : Ending → World → Prop, PO = fun en w' => Ans rb e 32 w (fun w2 v x => VE (fun b => w.heap.size ≤ b) w2 v x) (refuse e 4 l it) en w' := ⟨_, rfl⟩
 rw [← hPO]
 have HPO := hide hPO
 have B1 := hide b1
 clear hw1 h b1 hPO
 go_enter Tryz.func144, Tryz.ntmps144
 go_wp2_with fail
 rw [← Qa HW1]
 refine hc.mono ?_
 clear hc
 rintro en w3 ⟨rfl, b3⟩
 have H3 := hide (Kp.of_below (rb := rb) ((Qa B1).trans (b3.mono (Qa B1).size)))
 clear b3
 go_wp2_with fail
 refine ⟨rfl, ?_⟩
 rw [Qa HPO]
 exact ⟨rfl, Qa H3⟩

theorem Jah {rb e dp : Nat} {part : Pr Ex} (hd : dp < 32) (hpart : OpC 161 rb e (dp + 1) part) (hshr : Shr part) : OpC 144 rb e dp (joined e part [[43], [45]]) := by
 intro w l it h
 obtain ⟨w1, hw1⟩ : ∃ w1, w1 = w.alloc exZ := ⟨_, rfl⟩
 have b1 : Below w.heap.size w w1 := bnw hw1
 have q1 : w1.heap[w.heap.size]? = some exZ := nnw hw1
 have s1 : w1.heap.size = w.heap.size + 1 := by rw [hw1]; simp
 have he := Qgb (h.later b1) hd
 have hrb := h.lt
 obtain ⟨PO, hPO⟩ : ∃ PO : Ending → World → Prop, PO = fun en w' => Ans rb e dp w (fun w2 v x => VE (fun b => w.heap.size ≤ b) w2 v x) (joined e part [[43], [45]] l it) en w' := ⟨_, rfl⟩
 rw [← hPO]
 have HW1 : Hid (w1 = w.alloc (.cells #[.int .i64 0, .int .i64 0, .string ⟨#[]⟩, .slice none 0 0, .int .i64 0] 67)) := hw1
 have HPO := hide hPO
 have HP := hide (Ya hpart (Ya hshr hd))
 have K1 := hide (Ya b1 (Ya q1 s1))
 clear hpart hshr h b1 q1 s1 hw1 hPO hd
 go_enter Tryz.func144, Tryz.ntmps144
 go_wp2_with fail
 rw [← Qa HW1]
 refine he.mono ?_
 clear he
 rintro en w2 ⟨rfl, hR2, k2⟩
 obtain ⟨b1, q1, s1⟩ := Qa K1
 have hs2 := k2.size
 obtain ⟨w3, hw3⟩ : ∃ w3, w3 = w2.alloc (.cells #[.string ⟨#[43]⟩, .string ⟨#[45]⟩] 9) := ⟨_, rfl⟩
 have b3 : Below w2.heap.size w2 w3 := bnw hw3
 have n3 : w3.heap[w2.heap.size]? = some (.cells #[.string ⟨#[43]⟩, .string ⟨#[45]⟩] 9 (0, 0)) := nnw hw3
 have k3 : Kp rb w w3 := ((Kp.of_below b1).trans k2).trans (Kp.of_below b3)
 have q3 : w3.heap[w.heap.size]? = some exZ := (b3.block _ (by omega)).trans (k2.keep q1 (by omega))
 have s3 : w3.heap.size = w2.heap.size + 1 := by rw [hw3]; simp
 have hsv : SgAt rb w3 (.slice (some ⟨w2.heap.size, 0, none⟩) 2 2) [[43], [45]] := by
  refine ⟨w2.heap.size, 0, 2, rfl, by omega, by omega, fun j x hx => ?_⟩
  rw [Qab n3]
  match j, hx with
  | 0, hx => simp at hx; subst hx; rfl
  | 1, hx => simp at hx; subst hx; rfl
 have hc := Qjr 161 (fun _ _ => rfl) (Qa HP).1 (Qa HP).2.1 (hR2.later b3) _ _ hsv (by decide) (by decide)
 have HW3 := hide hw3
 have K3 := hide (Ya k3 (Ya q3 (Ya s3 (by omega : w.heap.size + 1 ≤ w2.heap.size))))
 clear b1 q1 s1 hs2 hw3 b3 n3 k3 q3 s3 hsv K1 hR2 k2
 cases hq : joined e part [[43], [45]] l it with
 | bad why at0 l2 =>
  rw [hq] at hc HPO
  clear hq
  go_wp2_with fail
  rw [← Qa HW3]
  refine hc.mono ?_
  clear hc
  rintro en w4 ⟨rfl, k4⟩
  have H4 := hide ((Qa K3).1.trans k4)
  clear k4
  go_wp2_with fail
  refine ⟨rfl, ?_⟩
  rw [Qa HPO]
  exact ⟨rfl, Qa H4⟩
 | ok x l2 i2 =>
  rw [hq] at hc HPO
  clear hq
  go_wp2_with fail
  rw [← Qa HW3]
  refine hc.mono ?_
  clear hc
  rintro en w4 ⟨_, rfl, ⟨_, rfl, ⟨xa, xn, xc, rfl⟩, hX⟩, hR4, k4⟩
  obtain ⟨k3, q3, s3, s3'⟩ := Qa K3
  have hs4 := k4.size
  obtain ⟨w5, hw5⟩ : ∃ w5, w5 = w4.alloc (.cells #[.int .i64 x.kind, .int .i64 x.num, str x.txt, .slice xa xn xc, .int .i64 x.at_] 67) := ⟨_, rfl⟩
  have b5 : Below w4.heap.size w4 w5 := bnw hw5
  have n5 : w5.heap[w4.heap.size]? = some (.cells #[.int .i64 x.kind, .int .i64 x.num, str x.txt, .slice xa xn xc, .int .i64 x.at_] 67 (0, 0)) := nnw hw5
  have hl := Qdl (hR4.later b5) (Qa HP).2.2
  have hX5 := Qae.same _ _ w5 _ _ hX b5.size (fun b _ hl => b5.block b hl)
  have q5 : w5.heap[w.heap.size]? = some exZ := (b5.block _ (by omega)).trans (k4.keep q3 (by omega))
  have HW5 := hide hw5
  have s5 : w5.heap.size = w4.heap.size + 1 := by rw [hw5]; simp
  have K5 := hide (Ya ((k3.trans k4).trans (Kp.of_below b5)) (Ya n5 (Ya hX5 (Ya q5 s5))))
  have hs : w.heap.size + 2 ≤ w4.heap.size ∧ w.heap.size + 2 ≤ w3.heap.size := ⟨by omega, by omega⟩
  have HS := hide hs
  clear hX hR4 k4 k3 q3 s3 s3' hs4 hw5 b5 n5 hX5 q5 K3 hs s5
  generalize hxb : w4.heap.size = xb at HS K5
  go_wp2_with fail
  rw [← Qa HW5]
  refine hl.mono ?_
  clear hl
  rintro en w6 ⟨rfl, hR6, k6⟩
  obtain ⟨k5, n5, hX5, q5, s5⟩ := Qa K5
  obtain ⟨g1, g2⟩ := Qa HS
  have n6 := k6.keep n5 (by omega)
  obtain ⟨z0, z1, z2, z3, z4, zf⟩ := ex5 n6
  have hX6 := Qae.same _ _ w6 _ _ hX5 k6.size (fun b hs hl => k6.block b hl (by omega))
  obtain ⟨y0, y1, y2, y3, y4, yf⟩ := ex5 (k6.keep q5 (by omega))
  have HF := hide (Qcg (gb := w.heap.size) hX6 (fun b hb => ⟨by omega, by omega⟩) hR6 (k5.trans k6) (Nat.le_refl _) hrb)
  clear hR6 k6 k5 n5 hX5 q5 s5 n6 hX6 g1 g2 zf HW5 hxb
  go_wp2_with fail
  refine bodyPost_ret (v := .agg #[.int .i64 x.kind, .int .i64 x.num, str x.txt, .slice xa xn xc, .int .i64 x.at_]) (by simp [results, Tryz.results144, go_sem, y0, y1, y2, y3, y4]) rfl ?_
  rw [Qa HPO]
  exact ⟨_, rfl, Qa HF _ _ _ _ _⟩
end
section
open Go.RowKit Go.Maps
theorem tk4 {w : World} {b : Nat} {t : Tok} (h : w.heap[b]? = some (.cells #[.int .i64 t.kind, str t.text, .int .i64 t.num, .int .i64 (t.at_ : Int)] 83 (0, 0))) :
  w.cell? ⟨b, 0, none⟩ = some (.int .i64 t.kind) ∧ w.cell? ⟨b, 1, none⟩ = some (str t.text) ∧ w.cell? ⟨b, 2, none⟩ = some (.int .i64 t.num) ∧ w.cell? ⟨b, 3, none⟩ = some (.int .i64 (t.at_ : Int)) :=
 ⟨(Qab h 0).trans rfl, (Qab h 1).trans rfl, (Qab h 2).trans rfl, (Qab h 3).trans rfl⟩
def varP (e : Nat) : Pr Ex := fun l i =>
  if (ahd e 0 l).text = [95] then .ok (.mk 4 0 [] [] (ahd e 0 l).at_) (l.drop 1) i
  else (wordQ e l i).map fun w => .mk 1 0 w [] (ahd e 0 l).at_

theorem Qof {rb e dp : Nat} {w : World} {l : List Tok} {it : Nat} (h : Rd rb e w l it dp) (hk1 : (ahd e 0 l).kind = 1) :
  Calls Tryz.prog 176 #[.pointer (some ⟨rb, 0, none⟩)] w fun en w' => Ans rb e dp w (fun w2 v x => VE (fun b => w.heap.size ≤ b) w2 v x) (varP e l it) en w' := by
 have mixed : Tryz.prog.follows .mixedOrders = true := by kernel_rfl
 obtain ⟨t, l', rfl, hk⟩ := Qem hk1 (by decide)
 obtain ⟨w1, hw1⟩ : ∃ w1, w1 = w.alloc exZ := ⟨_, rfl⟩
 have b1 : Below w.heap.size w w1 := bnw hw1
 have q1 : w1.heap[w.heap.size]? = some exZ := nnw hw1
 have s1 : w1.heap.size = w.heap.size + 1 := by rw [hw1]; simp
 have ha := Qau (h.later b1) 0
 unfold tokV at ha
 have e0 : ahd e 0 (t :: l') = t := rfl
 rw [e0] at ha
 have hrb := h.lt
 obtain ⟨PO, hPO⟩ : ∃ PO : Ending → World → Prop, PO = fun en w' => Ans rb e dp w (fun w2 v x => VE (fun b => w.heap.size ≤ b) w2 v x) (varP e (t :: l') it) en w' := ⟨_, rfl⟩
 rw [← hPO]
 have HW1 : Hid (w1 = w.alloc (.cells #[.int .i64 0, .int .i64 0, .string ⟨#[]⟩, .slice none 0 0, .int .i64 0] 67)) := hw1
 have HH := hide (Ya h (Ya b1 (Ya q1 s1)))
 have HPO := hide hPO
 clear h b1 q1 s1 hw1 hk hk1 e0 hPO
 go_enter Tryz.func176, Tryz.ntmps176
 go_wp2_with fail
 rw [← Qa HW1]
 refine ha.mono ?_
 clear ha
 rintro en w2 ⟨rfl, b2⟩
 obtain ⟨h, b1, q1, s1⟩ := Qa HH
 have hs2 := b2.size
 obtain ⟨w3, hw3⟩ : ∃ w3, w3 = w2.alloc (.cells #[.int .i64 t.kind, str t.text, .int .i64 t.num, .int .i64 (t.at_ : Int)] 83) := ⟨_, rfl⟩
 have b3 : Below w.heap.size w w3 := by rw [hw3]; exact (b1.trans (b2.mono (by omega))).alloc (by omega) _
 have n3 : w3.heap[w2.heap.size]? = some (.cells #[.int .i64 t.kind, str t.text, .int .i64 t.num, .int .i64 (t.at_ : Int)] 83 (0, 0)) := nnw hw3
 have q3 : w3.heap[w.heap.size]? = some exZ := by rw [hw3, Below.heap_alloc _ _ _ (by omega)]; exact (b2.block _ (by omega)).trans q1
 have s3 : w3.heap.size = w2.heap.size + 1 := by rw [hw3]; simp
 have ht : Calls Tryz.prog 110 #[.pointer (some ⟨rb, 0, none⟩)] w3 fun en w' => en = .returned (.agg #[.int .i64 t.kind, str t.text, .int .i64 t.num, .int .i64 (t.at_ : Int)]) ∧ Rd rb e w' l' it dp ∧ Kp rb w3 w' := Qbu (h.later b3)
 have HWd := hide (Qcp ((h.later b3).later ((Below.refl _ w3).drew)))
 obtain ⟨tc0, tc1, tc2, tc3⟩ := tk4 n3
 have HW3 := hide hw3
 have K3 := hide (Ya (Kp.of_below (rb := rb) b3) (Ya n3 (Ya q3 (Ya s3 (by omega : w.heap.size + 1 ≤ w2.heap.size)))))
 generalize htb : w2.heap.size = tb at tc0 tc1 tc2 tc3 K3
 clear h b1 q1 s1 hs2 b2 b3 n3 q3 s3 hw3 HH
 by_cases hS : t.text = [95]
 ·
  have E : varP e (t :: l') it = .ok (.mk 4 0 [] [] t.at_) l' it := if_pos hS
  rw [E] at HPO
  have g1 : (t.text == [95]) = true := by simpa using hS
  clear E hS HWd
  go_wp2_with fail
  rw [← Qa HW3]
  clear HW3
  go_wp2_with fail
  refine ht.mono ?_
  clear ht
  rintro en w4 ⟨rfl, hR4, k4⟩
  obtain ⟨k3, n3, q3, s3, s3'⟩ := Qa K3
  obtain ⟨y0, y1, y2, y3, y4, yf⟩ := ex5 (k4.keep q3 (by omega))
  have HF := hide (Qcg (x := .mk 4 0 [] [] t.at_) (S := fun _ => False) (gb := w.heap.size) (Qep _ w4 4 0 t.at_ []) (fun b hb => hb.elim) hR4 (k3.trans k4) (Nat.le_refl _) hrb)
  clear hR4 k4 k3 n3 q3 s3 s3' tc0 tc1 tc2 tc3 htb
  go_wp2_with fail
  rename_i hK
  refine hK _ _ ?_
  clear hK
  go_wp2_with fail
  refine bodyPost_ret (v := .agg #[.int .i64 4, .int .i64 0, .string ⟨#[]⟩, .slice none 0 0, .int .i64 t.at_]) (by simp [results, Tryz.results176, go_sem, y0, y1, y2, y3, y4]) rfl ?_
  rw [Qa HPO]
  exact ⟨_, rfl, Qa HF _ _ _ _ _⟩
 have g1 : (t.text == [95]) = false := by simpa using hS
 have E : varP e (t :: l') it = (wordQ e (t :: l') it).map fun w => .mk 1 0 w [] t.at_ := if_neg hS
 rw [E] at HPO
 have hop := Qa HWd
 clear E hS HWd ht
 cases hq : wordQ e (t :: l') it with
 | bad why at0 l2 =>
  rw [hq] at hop HPO
  clear hq
  go_wp2_with fail
  rw [← Qa HW3]
  clear HW3
  go_wp2_with fail
  refine Qax (m := 5) (ml := [(0, 1), (2, 1), (3, 1), (1, 0), (4, 0), (5, 0)]) (fun _ w' => w'.heap[tb]? = some (.cells #[.int .i64 t.kind, str t.text, .int .i64 t.num, .int .i64 (t.at_ : Int)] 83 (0, 0))) mixed (by kernel_rfl) rfl (by rfl) (by kernel_rfl) (fun c a d v w h => by cases d <;> exact h) (fun PP PQ hPP hPQ => ?_)
  refine Qac rfl (by kernel_rfl) (fun _ _ _ => by go_simp <;> rfl) ?_
  refine Qac rfl (by kernel_rfl) (fun _ _ _ => by go_simp <;> rfl) ?_
  refine Qac rfl (by kernel_rfl) (fun f w' hw => by obtain ⟨u0, u1, u2, u3⟩ := tk4 hw; go_simp <;> rfl) ?_
  refine Qaf rfl (Qa K3).2.1 (fun K hK => ?_)
  go_simp
  refine hop.mono ?_
  clear hop
  rintro en w4 ⟨rfl, k4⟩
  have H4 := hide (((Qa K3).1.trans (Kp.of_below ((Below.refl _ w3).drew))).trans k4)
  clear k4
  go_wp2_with fail
  show PQ _ _ _
  refine hPQ _ _ _ ⟨rfl, ?_⟩
  rw [Qa HPO]
  exact ⟨rfl, Qa H4⟩
 | ok x l2 i2 =>
  rw [hq] at hop HPO
  clear hq
  go_wp2_with fail
  rw [← Qa HW3]
  clear HW3
  go_wp2_with fail
  refine Qax (m := 5) (ml := [(0, 1), (2, 1), (3, 1), (1, 0), (4, 0), (5, 0)]) (fun _ w' => w'.heap[tb]? = some (.cells #[.int .i64 t.kind, str t.text, .int .i64 t.num, .int .i64 (t.at_ : Int)] 83 (0, 0))) mixed (by kernel_rfl) rfl (by rfl) (by kernel_rfl) (fun c a d v w h => by cases d <;> exact h) (fun PP PQ hPP hPQ => ?_)
  refine Qac rfl (by kernel_rfl) (fun _ _ _ => by go_simp <;> rfl) ?_
  refine Qac rfl (by kernel_rfl) (fun _ _ _ => by go_simp <;> rfl) ?_
  refine Qac rfl (by kernel_rfl) (fun f w' hw => by obtain ⟨u0, u1, u2, u3⟩ := tk4 hw; go_simp <;> rfl) ?_
  refine Qaf rfl (Qa K3).2.1 (fun K hK => ?_)
  go_simp
  refine hop.mono ?_
  clear hop
  rintro en w4 ⟨_, rfl, rfl, hR4, k4'⟩
  obtain ⟨k3, n3, q3, s3, s3'⟩ := Qa K3
  have k4 : Kp rb w3 w4 := (Kp.of_below ((Below.refl _ w3).drew)).trans k4'
  have n4 := k4.keep n3 (by omega)
  have N4 := hide n4
  obtain ⟨y0, y1, y2, y3, y4, yf⟩ := ex5 (k4.keep q3 (by omega))
  have hne : tb ≠ w.heap.size := by omega
  have HN5 : Hid (∀ q0 q1 q2 q3 q4, (((((w4.setCell ⟨w.heap.size, 0, none⟩ q0).setCell ⟨w.heap.size, 1, none⟩ q1).setCell ⟨w.heap.size, 2, none⟩ q2).setCell ⟨w.heap.size, 3, none⟩ q3).setCell ⟨w.heap.size, 4, none⟩ q4).heap[tb]? = some (.cells #[.int .i64 t.kind, str t.text, .int .i64 t.num, .int .i64 (t.at_ : Int)] 83 (0, 0))) := fun q0 q1 q2 q3 q4 => by
   rw [hpS hne, hpS hne, hpS hne, hpS hne, hpS hne]; exact n4
  have HF := hide (Qcg (x := .mk 1 0 x [] t.at_) (S := fun _ => False) (gb := w.heap.size) (Qep _ w4 1 0 t.at_ x) (fun b hb => hb.elim) hR4 (k3.trans k4) (Nat.le_refl _) hrb)
  clear hR4 k4 k3 n3 q3 s3 s3' tc0 tc1 tc2 tc3 htb k4' n4 hne
  go_wp2_with fail
  refine Qaf rfl (Qa N4) (fun K hK => ?_)
  go_simp
  refine hK _ _ ?_
  clear hK K
  refine Qaf rfl (Qa N4) (fun K hK => ?_)
  go_simp
  refine hK _ _ ?_
  clear hK K
  refine Qbx (Qa HN5 _ _ _ _ _) (hPP _ _ ?_)
  clear hPP hPQ
  go_wp2_with fail
  refine bodyPost_ret (v := .agg #[.int .i64 1, .int .i64 0, str x, .slice none 0 0, .int .i64 t.at_]) (by simp [results, Tryz.results176, go_sem, y0, y1, y2, y3, y4]) rfl ?_
  rw [Qa HPO]
  exact ⟨_, rfl, Qa HF _ _ _ _ _⟩
end
section
open Go.RowKit Go.Maps
def minP (e : Nat) (F : Pr Ex) (at0 : Int) : Pr Ex := fun l i => (F l i).map fun x => if (ahd e 0 l).kind = 2 then .mk 2 (- x.num) [] [] at0 else opE [45] (.mk 2 0 [] [] at0) x

theorem Qxl {rb e dp : Nat} {part : Pr Ex} (hpart : OpC 169 rb e dp part) (hnum : ∀ l it x l2 i2, (ahd e 0 l).kind = 2 → part l it = .ok x l2 i2 → x.num = (ahd e 0 l).num) {w : World} {l : List Tok} {it : Nat} (h : Rd rb e w l it dp) (at0 : Int) :
  Calls Tryz.prog 184 #[.pointer (some ⟨rb, 0, none⟩), .int .i64 at0] w fun en w' => Ans rb e dp w (fun w2 v x => VE (fun b => w.heap.size ≤ b) w2 v x) (minP e part at0 l it) en w' := by
 obtain ⟨w1, hw1⟩ : ∃ w1, w1 = w.alloc exZ := ⟨_, rfl⟩
 have b1 : Below w.heap.size w w1 := bnw hw1
 have q1 : w1.heap[w.heap.size]? = some exZ := nnw hw1
 have s1 : w1.heap.size = w.heap.size + 1 := by rw [hw1]; simp
 have ha := Qau (h.later b1) 0
 unfold tokV at ha
 have hrb := h.lt
 have hbn : (ahd e 0 l).kind = 2 → 0 ≤ (ahd e 0 l).num ∧ (ahd e 0 l).num ≤ 9223372036854775807 := fun hk => by
  obtain ⟨t, l', rfl, hk'⟩ := Qem hk (by decide)
  have := h.num t (List.mem_cons_self ..)
  exact ⟨this.2.2.1, this.2.2.2.1⟩
 obtain ⟨PO, hPO⟩ : ∃ PO : Ending → World → Prop, PO = fun en w' => Ans rb e dp w (fun w2 v x => VE (fun b => w.heap.size ≤ b) w2 v x) (minP e part at0 l it) en w' := ⟨_, rfl⟩
 rw [← hPO]
 have HW1 : Hid (w1 = w.alloc (.cells #[.int .i64 0, .int .i64 0, .string ⟨#[]⟩, .slice none 0 0, .int .i64 0] 67)) := hw1
 have HH := hide (Ya h (Ya b1 (Ya q1 s1)))
 have HPO := hide hPO
 have HP := hide hpart
 have HN := hide (Ya (fun x l2 i2 => hnum l it x l2 i2) hbn)
 have hmin : Hid (minP e part at0 l it = (part l it).map fun x => if (ahd e 0 l).kind = 2 then .mk 2 (- x.num) [] [] at0 else opE [45] (.mk 2 0 [] [] at0) x) := rfl
 generalize minP e part at0 l it = mr at HPO hmin
 generalize ahd e 0 l = t at ha HN hmin
 clear h b1 q1 s1 hw1 hPO hpart hnum hbn
 go_enter Tryz.func184, Tryz.ntmps184
 go_wp2_with fail
 rw [← Qa HW1]
 refine ha.mono ?_
 clear ha
 rintro en w2 ⟨rfl, b2⟩
 obtain ⟨h, b1, q1, s1⟩ := Qa HH
 have hs2 := b2.size
 have b02 : Below w.heap.size w w2 := b1.trans (b2.mono (by omega))
 have hop := Qa HP w2 l it (h.later b02)
 have K2 := hide (Ya (Kp.of_below (rb := rb) b02) (Ya ((b2.block _ (by omega)).trans q1) (by omega : w.heap.size + 1 ≤ w2.heap.size)))
 clear h b1 q1 s1 hs2 b2 b02 HH HP
 go_wp2_with fail
 rename_i hK
 refine hK _ _ ?_
 clear hK
 cases hq : part l it with
 | bad why at1 l2 =>
  rw [hq] at hop hmin
  rw [Qa hmin] at HPO
  clear hq hmin HN
  go_wp2_with fail
  refine hop.mono ?_
  clear hop
  rintro en w3 ⟨rfl, k3⟩
  have H3 := hide ((Qa K2).1.trans k3)
  clear k3
  go_wp2_with fail
  refine ⟨rfl, ?_⟩
  rw [Qa HPO]
  exact ⟨rfl, Qa H3⟩
 | ok x l2 i2 =>
  rw [hq] at hop hmin
  have hN1 : t.kind = 2 → x.num = t.num ∧ 0 ≤ t.num ∧ t.num ≤ 9223372036854775807 := fun hk => ⟨(Qa HN).1 x l2 i2 hk hq, (Qa HN).2 hk⟩
  have HN1 := hide hN1
  rw [Qa hmin] at HPO
  clear hq hmin HN hN1
  go_wp2_with fail
  refine hop.mono ?_
  clear hop
  rintro en w4 ⟨_, rfl, ⟨_, rfl, ⟨xa, xn, xc, rfl⟩, hX⟩, hR4, k4⟩
  obtain ⟨k3, q3, s3⟩ := Qa K2
  have hs4 := k4.size
  obtain ⟨w5, hw5⟩ : ∃ w5, w5 = w4.alloc (.cells #[.int .i64 x.kind, .int .i64 x.num, str x.txt, .slice xa xn xc, .int .i64 x.at_] 67) := ⟨_, rfl⟩
  have b5 : Below w4.heap.size w4 w5 := bnw hw5
  have n5 : w5.heap[w4.heap.size]? = some (.cells #[.int .i64 x.kind, .int .i64 x.num, str x.txt, .slice xa xn xc, .int .i64 x.at_] 67 (0, 0)) := nnw hw5
  have hX5 := Qae.same _ _ w5 _ _ hX b5.size (fun b _ hl => b5.block b hl)
  have q5 : w5.heap[w.heap.size]? = some exZ := (b5.block _ (by omega)).trans (k4.keep q3 (by omega))
  have s5 : w5.heap.size = w4.heap.size + 1 := by rw [hw5]; simp
  have k5 : Kp rb w w5 := (k3.trans k4).trans (Kp.of_below b5)
  have hR5 := hR4.later b5
  obtain ⟨z0, z1, z2, z3, z4, zf⟩ := ex5 n5
  have HW5 := hide hw5
  have hg4 : w.heap.size + 1 ≤ w4.heap.size := by omega
  generalize hxb : w4.heap.size = xb at z0 z1 z2 z3 z4 zf
  by_cases hk : t.kind = 2
  ·
   have gk : (t.kind == 2) = true := by simpa using hk
   obtain ⟨e1, e2, e3⟩ := Qa HN1 hk
   rw [← e1] at e2 e3
   obtain ⟨y0, y1, y2, y3, y4, yf⟩ := ex5 q5
   have HF := hide (Qcg (x := .mk 2 (- x.num) [] [] at0) (S := fun _ => False) (gb := w.heap.size) (Qep _ w5 2 (- x.num) at0 []) (fun b hb => hb.elim) hR5 k5 (Nat.le_refl _) hrb)
   have HPO2 : Hid (PO = fun en w' => Ans rb e dp w (fun w2 v x => VE (fun b => w.heap.size ≤ b) w2 v x) (.ok (.mk 2 (- x.num) [] [] at0) l2 i2) en w') := by
    have := Qa HPO
    rw [Rs.map, if_pos hk] at this
    exact this
   clear hX hR4 k4 k3 q3 s3 hs4 b5 n5 hX5 q5 s5 k5 hR5 hk e1 hg4 HN1 HPO HW5 zf
   subst hw5
   go_wp2_with fail
   refine bodyPost_ret (v := .agg #[.int .i64 2, .int .i64 (- x.num), .string ⟨#[]⟩, .slice none 0 0, .int .i64 at0]) (by simp [results, Tryz.results184, go_sem, y0, y1, y2, y3, y4]) rfl ?_
   rw [Qa HPO2]
   exact ⟨_, rfl, Qa HF _ _ _ _ _⟩
  have gk : (t.kind == 2) = false := by simpa using hk
  have HPO2 : Hid (PO = fun en w' => Ans rb e dp w (fun w2 v x => VE (fun b => w.heap.size ≤ b) w2 v x) (.ok (opE [45] (.mk 2 0 [] [] at0) x) l2 i2) en w') := by
   have := Qa HPO
   rw [Rs.map, if_neg hk] at this
   exact this
  have hopr := Qhf (w := w5) (S := fun b => w.heap.size < b) [45] (x := .mk 2 0 [] [] at0) (y := x) (Qep _ w5 2 0 at0 []) (Qae.mono _ _ _ _ _ hX5 (fun b _ hs => by omega)) ⟨_, _, _, rfl⟩ ⟨_, _, _, rfl⟩ (fun b hb => by omega)
  have K5 := hide (Ya k5 (Ya hR5 q5))
  clear hX hR4 k4 k3 q3 s3 hs4 hw5 b5 n5 hX5 q5 s5 k5 hR5 hk hg4 HN1 HPO
  go_wp2_with fail
  rw [← Qa HW5]
  clear HW5 hxb
  go_wp2_with fail
  refine hopr.mono ?_
  clear hopr
  rintro en w6 ⟨_, rfl, ⟨va, vc, rfl⟩, hO6, b6⟩
  obtain ⟨k5, hR5, q5⟩ := Qa K5
  obtain ⟨y0, y1, y2, y3, y4, yf⟩ := ex5 ((b6.block _ (Qag q5)).trans q5)
  have HF := hide (Qcg (x := opE [45] (.mk 2 0 [] [] at0) x) (gb := w.heap.size) hO6 (fun b hb => ⟨by omega, by omega⟩) (hR5.later b6) (k5.trans (Kp.of_below b6)) (Nat.le_refl _) hrb)
  clear hO6 b6 k5 hR5 q5
  go_wp2_with fail
  refine bodyPost_ret (v := .agg #[.int .i64 5, .int .i64 0, str [45], .slice va 2 vc, .int .i64 at0]) (by simp [results, Tryz.results184, go_sem, y0, y1, y2, y3, y4, Ex.at_]) rfl ?_
  rw [Qa HPO2]
  exact ⟨_, rfl, Qa HF _ _ _ _ _⟩
end
end Go.Proofs.YtccehgfecaamoaaGreatDoor
