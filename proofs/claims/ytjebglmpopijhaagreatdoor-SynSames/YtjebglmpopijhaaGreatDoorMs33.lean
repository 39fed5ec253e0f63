/- The document's reader: clause. The document's reader: kind. -/
import Derived.Test.YtjebglmpopijhaaGreatDoorMs30
import Derived.Test.YtjebglmpopijhaaGreatDoorMs32
import Derived.Test.YtjebglmpopijhaaGreatDoorMs15
import Derived.Deep.Cut
import Derived.Deep.CutRange
set_option maxRecDepth 100000
set_option maxHeartbeats 32000000
namespace Go.Proofs.YtjebglmpopijhaaGreatDoor
section
open Go.RowKit Go.Maps
def clV (w : World) (w' : World) (v : Value) : Prop := ∃ x : Cls, VCl (fun b => w.heap.size ≤ b) w' v x
def clE (w : World) (xb : Nat) (v : Value) (xs : List Ex) (W : World) : Prop := LsAt PE 5 (fun b => w.heap.size < b ∧ b < xb) W v xs
theorem Qhu (w : World) (xb : Nat) (v : Value) (xs : List Ex) : EK w xb (clE w xb v xs) := fun _ _ hs hb h => LsAt.same Qaf h hs (fun b hq hl => hb b hq.1 hq.2 hl)
theorem Qgp {rb g cap a d i : Nat} {l : List Tok} {w : World} {y f : Int} (h : Rr rb g cap l w a d i y f) (hd : d ≤ 63) :
  Calls Tryz.prog 57 #[.pointer (some ⟨rb, 0, none⟩)] w fun en w' => RA rb g cap l w d (clV w) (CoY a i y) en w' := by
 have b0 : Below w.heap.size w (w.alloc (.cells #[.string ⟨#[]⟩, .slice none 0 0, .int .i64 0, .slice none 0 0, .int .i64 0] 80)) := (Below.refl _ w).alloc (Nat.le_refl _) _
 have n0 : (w.alloc (.cells #[.string ⟨#[]⟩, .slice none 0 0, .int .i64 0, .slice none 0 0, .int .i64 0] 80)).heap[w.heap.size]? = some (.cells #[.string ⟨#[]⟩, .slice none 0 0, .int .i64 0, .slice none 0 0, .int .i64 0] 80 (0, 0)) := heap_alloc_new w _
 have s0 : (w.alloc (.cells #[.string ⟨#[]⟩, .slice none 0 0, .int .i64 0, .slice none 0 0, .int .i64 0] 80)).heap.size = w.heap.size + 1 := by simp
 obtain ⟨t, ht⟩ := h.tok
 have HNW : Hid (∀ w', Below w.heap.size w w' → Calls Tryz.prog 17 #[.pointer (some ⟨rb, 0, none⟩)] w' fun en w2 => en = .returned (.agg #[.int .i64 t.kind, str t.text, .int .i64 t.num, .int .i64 (t.at_ : Int)]) ∧ Below w'.heap.size w' w2) := fun w' bb => Qbo (h.later bb) ht
 have HH := hide h
 have HD := hide hd
 have H0 := hide (Ya b0 (Ya n0 s0))
 clear h hd ht b0 n0 s0
 go_enter Tryz.func57, Tryz.ntmps57
 go_wp2_with fail
 refine (Qa HNW _ (Qa H0).1).mono ?_
 rintro en w1 ⟨rfl, b1⟩
 obtain ⟨b0, n0, s0⟩ := Qa H0
 have hb1 := b0.trans (b1.mono (by omega))
 have n1 := (b1.block _ (by omega)).trans n0
 have hat := Qgo ((Qa HH).later hb1) (Qa HD)
 have hrl := Qag (Qa HH).box
 have hgl := (Qa HH).row.lt
 have hs1 := b1.size
 have K1 := hide (Ya (Kp.of_below (rb := rb) hb1) (Ya n1 (show rb < w.heap.size ∧ g < w.heap.size ∧ w.heap.size < w1.heap.size by omega)))
 clear b1 b0 n0 s0 hb1 n1 hrl hgl hs1 HNW H0
 go_wp2_with fail
 rename_i hK
 refine hK _ _ ?_
 clear hK
 go_wp2_with fail
 refine hat.mono ?_
 clear hat
 rintro en w2 ⟨_, a2, i2, y2, f2, rfl, ⟨am, aa, an, ac, rfl, hks⟩, ⟨ei, ha2, hy2⟩, h2, k2⟩
 rw [ei] at h2
 clear ei
 obtain ⟨k1, n1, g1, g2, g3⟩ := Qa K1
 have hs2 := k2.size
 have n2 := k2.keep n1 (by omega)
 obtain ⟨xb, hxb⟩ : ∃ xb, w2.heap.size = xb := ⟨_, rfl⟩
 obtain ⟨w3, hw3⟩ : ∃ w3, w3 = w2.alloc (.cells #[str am.rel, .slice aa an ac, .int .i64 am.at_, .slice none 0 0, .int .i64 (t.at_ : Int)] 80) := ⟨_, rfl⟩
 have b3 : Below w2.heap.size w2 w3 := by rw [hw3]; exact (Below.refl _ w2).alloc (Nat.le_refl _) _
 have n3 : w3.heap[xb]? = some (.cells #[str am.rel, .slice aa an ac, .int .i64 am.at_, .slice none 0 0, .int .i64 (t.at_ : Int)] 80 (0, 0)) := by rw [hw3, ← hxb]; exact heap_alloc_new w2 _
 have q3 := (b3.block _ (by omega)).trans n2
 have hE3 : clE w xb (.slice aa an ac) am.args w3 := LsAt.same Qaf (hks.mono Qaf (fun b hl hb => (⟨by have hb' : w1.heap.size ≤ b := hb; omega, by omega⟩ : w.heap.size < b ∧ b < xb))) b3.size (fun q _ hl => b3.block q hl)
 have G3 : Hid (Gx PLt 16 90 rb g cap l w d i a y xb 80 #[.string ⟨#[]⟩, .slice none 0 0, .int .i64 0, .slice none 0 0, .int .i64 0] (clE w xb (.slice aa an ac) am.args) w3 #[str am.rel, .slice aa an ac, .int .i64 am.at_, .slice none 0 0, .int .i64 (t.at_ : Int)] a2 y2 f2 (.slice none 0 0) []) := ⟨h2.later b3, ⟨(k1.trans k2).trans (Kp.of_below b3), n3, q3, g1, g2, by omega⟩, hE3, Qo.nil _, ha2, hy2, Nat.zero_le _, fun _ => Nat.zero_le _⟩
 have hmy := Qbj (Qa G3).r ⟨#[58, 45]⟩
 have HW3 := hide (Ya hw3 hxb)
 clear k1 n1 g1 g2 g3 hs2 n2 hxb hw3 b3 n3 q3 hE3 hks ha2 hy2 h2 k2 K1
 go_wp2_with fail
 rw [← (Qa HW3).1, (Qa HW3).2]
 clear HW3
 refine hmy.mono ?_
 clear hmy
 rintro en w4 ⟨b, a4, f4, rfl, hb1, hb0, h4, k4⟩
 have G4 := hide ((Qa G3).call Qbl (Qhu _ _ _ _) k4 h4 (by
  cases b with
  | true => have := (hb1 rfl).2; omega
  | false => have := hb0 rfl; omega) (fun e => e))
 clear hb1 hb0 h4 k4 G3
 cases b
 ·
  have hms := Qbs (Qa G4).r ⟨#[46]⟩
  go_wp2_with fail
  refine hms.mono ?_
  clear hms
  rintro en w9 ⟨_, a9, i9, y9, f9, rfl, rfl, ⟨ei, ha9, hy9⟩, h9, k9⟩
  rw [ei] at h9
  clear ei
  have g9 := (Qa G4).call Qbl (Qhu _ _ _ _) k9 h9 ha9 (fun e => (hy9 e).1)
  obtain ⟨x_0, x_1, x_2, x_3, x_4, xf⟩ := cl5 g9.b.box
  obtain ⟨y_0, y_1, y_2, y_3, y_4, yf⟩ := cl5 g9.b.res
  have HF : Hid (∀ q0 q1 q2 q3 q4, RA rb g cap l w d (clV w) (CoY a i y) (.returned (.agg #[str am.rel, .slice aa an ac, .int .i64 am.at_, .slice none 0 0, .int .i64 (t.at_ : Int)])) (((((w9.setCell ⟨w.heap.size, 0, none⟩ q0).setCell ⟨w.heap.size, 1, none⟩ q1).setCell ⟨w.heap.size, 2, none⟩ q2).setCell ⟨w.heap.size, 3, none⟩ q3).setCell ⟨w.heap.size, 4, none⟩ q4)) := fun q0 q1 q2 q3 q4 => by
   obtain ⟨R9, K9, E9, Q9⟩ := g9.fin Qbl (Qhu _ _ _ _) (W' := (((((w9.setCell ⟨w.heap.size, 0, none⟩ q0).setCell ⟨w.heap.size, 1, none⟩ q1).setCell ⟨w.heap.size, 2, none⟩ q2).setCell ⟨w.heap.size, 3, none⟩ q3).setCell ⟨w.heap.size, 4, none⟩ q4)) (by simp [World.setCell]) ⟨rfl, rfl, rfl⟩ (fun q hq => by rw [hpS hq, hpS hq, hpS hq, hpS hq, hpS hq])
   have hx1 := g9.b.x1
   exact ⟨_, _, _, _, _, rfl, ⟨⟨am, [], t.at_⟩, aa, an, ac, _, _, _, rfl, E9.mono Qaf (fun b _ hb => by omega), (Q9.ls Qbl).mono Qbl (fun b _ hb => by have hb' : xb + 1 ≤ b := hb; omega)⟩, ⟨rfl, g9.le, g9.y0⟩, R9, K9⟩
  clear ha9 hy9 h9 k9 g9
  go_wp2_with fail
  refine bodyPost_ret (v := .agg #[str am.rel, .slice aa an ac, .int .i64 am.at_, .slice none 0 0, .int .i64 (t.at_ : Int)]) (by simp [results, Tryz.results57, go_sem, y_0, y_1, y_2, y_3, y_4]) rfl ?_
  exact Qa HF _ _ _ _ _
 go_wp2_with fail
 go_loopw [4] (fun fb wr => ∃ (fst : Bool) (acc : List Lt) (a1 : Nat) (y1 f1 : Int) (sa : Option Addr) (sc : Nat), fb = .bool fst ∧ acc.length ≤ sc ∧ sc ≤ maxLen ∧ Hid (Gx PLt 16 90 rb g cap l w d i a y xb 80 #[.string ⟨#[]⟩, .slice none 0 0, .int .i64 0, .slice none 0 0, .int .i64 0] (clE w xb (.slice aa an ac) am.args) wr #[str am.rel, .slice aa an ac, .int .i64 am.at_, .slice sa acc.length sc, .int .i64 (t.at_ : Int)] a1 y1 f1 (.slice sa acc.length sc) acc)) (fun _ wr => leftR rb l.length wr)
 case atStart => exact ⟨true, [], a4, y2, f4, none, 0, rfl, Nat.le_refl _, by unfold maxLen; omega, G4⟩
 obtain ⟨fst, acc, a1, y1, f1, sa, sc, rfl, hc1, hc2, HI⟩ := hrel
 unfold maxLen at hc2
 clear G4
 go_upto_region 4 with fail
 go_cut [21] from 13 to 34 (fun c wc => ∃ (b : Bool) (aX : Nat) (fX : Int), c = .bool b ∧ Hid (Gx PLt 16 90 rb g cap l w d i a y xb 80 #[.string ⟨#[]⟩, .slice none 0 0, .int .i64 0, .slice none 0 0, .int .i64 0] (clE w xb (.slice aa an ac) am.args) wc #[str am.rel, .slice aa an ac, .int .i64 am.at_, .slice sa acc.length sc, .int .i64 (t.at_ : Int)] aX y1 fX (.slice sa acc.length sc) acc) ∧ Hid (a1 ≤ aX ∧ (b = true → y1 = 0 ∧ acc.length ≤ aX)))
 case first =>
  have hwl := Qbh (Qa HI).r
  by_cases hy : y1 = 0
  ·
   rw [decide_eq_true hy] at hwl
   have HY := hide hy
   clear hy
   cases fst
   ·
    have hmy := Qbj (Qa HI).r ⟨#[44]⟩
    go_wp2_with fail
    refine hwl.mono ?_
    clear hwl
    rintro en wq ⟨rfl, rfl⟩
    go_wp2_with fail
    refine hmy.mono ?_
    clear hmy
    rintro en WX ⟨b, a7, f7, rfl, hb1, hb0, h7, k7⟩
    have e7 : a1 ≤ a7 := by
     cases b with
     | true => have := (hb1 rfl).2; omega
     | false => have := hb0 rfl; omega
    have G7 := hide ((Qa HI).call Qbl (Qhu _ _ _ _) k7 h7 e7 (fun e => e))
    have HA1 := hide e7
    clear hb1 hb0 h7 k7 e7
    cases b
    ·
     go_wp2_with fail
     go_meet
     exact ⟨false, a7, f7, rfl, G7, hide ⟨Qa HA1, fun e => by cases e⟩⟩
    go_wp2_with fail
    go_meet
    exact ⟨true, a7, f7, rfl, G7, hide ⟨Qa HA1, fun _ => ⟨Qa HY, by have := (Qa HI).n0 (Qa HY); have := Qa HA1; omega⟩⟩⟩
   go_wp2_with fail
   refine hwl.mono ?_
   clear hwl
   rintro en wq ⟨rfl, rfl⟩
   go_wp2_with fail
   go_meet
   exact ⟨true, a1, f1, rfl, HI, hide ⟨Nat.le_refl _, fun _ => ⟨Qa HY, (Qa HI).n0 (Qa HY)⟩⟩⟩
  rw [decide_eq_false hy] at hwl
  clear hy
  go_wp2_with fail
  refine hwl.mono ?_
  clear hwl
  rintro en wq ⟨rfl, rfl⟩
  go_wp2_with fail
  go_meet
  exact ⟨false, a1, f1, rfl, HI, hide ⟨Nat.le_refl _, fun e => by cases e⟩⟩
 obtain ⟨b, aX, fX, rfl, G5, H5⟩ := hcut
 obtain ⟨wX, hwX⟩ : ∃ wX, wX = wc := ⟨_, rfl⟩
 subst hwX
 cases b
 ·
  have hms := Qbs (Qa G5).r ⟨#[46]⟩
  go_wp2_with fail
  refine hms.mono ?_
  clear hms
  rintro en w9 ⟨_, a9, i9, y9, f9, rfl, rfl, ⟨ei, ha9, hy9⟩, h9, k9⟩
  rw [ei] at h9
  clear ei
  have g9 := (Qa G5).call Qbl (Qhu _ _ _ _) k9 h9 ha9 (fun e => (hy9 e).1)
  obtain ⟨x_0, x_1, x_2, x_3, x_4, xf⟩ := cl5 g9.b.box
  obtain ⟨y_0, y_1, y_2, y_3, y_4, yf⟩ := cl5 g9.b.res
  have HF : Hid (∀ q0 q1 q2 q3 q4, RA rb g cap l w d (clV w) (CoY a i y) (.returned (.agg #[str am.rel, .slice aa an ac, .int .i64 am.at_, .slice sa acc.length sc, .int .i64 (t.at_ : Int)])) (((((w9.setCell ⟨w.heap.size, 0, none⟩ q0).setCell ⟨w.heap.size, 1, none⟩ q1).setCell ⟨w.heap.size, 2, none⟩ q2).setCell ⟨w.heap.size, 3, none⟩ q3).setCell ⟨w.heap.size, 4, none⟩ q4)) := fun q0 q1 q2 q3 q4 => by
   obtain ⟨R9, K9, E9, Q9⟩ := g9.fin Qbl (Qhu _ _ _ _) (W' := (((((w9.setCell ⟨w.heap.size, 0, none⟩ q0).setCell ⟨w.heap.size, 1, none⟩ q1).setCell ⟨w.heap.size, 2, none⟩ q2).setCell ⟨w.heap.size, 3, none⟩ q3).setCell ⟨w.heap.size, 4, none⟩ q4)) (by simp [World.setCell]) ⟨rfl, rfl, rfl⟩ (fun q hq => by rw [hpS hq, hpS hq, hpS hq, hpS hq, hpS hq])
   have hx1 := g9.b.x1
   exact ⟨_, _, _, _, _, rfl, ⟨⟨am, acc, t.at_⟩, aa, an, ac, _, _, _, rfl, E9.mono Qaf (fun b _ hb => by omega), (Q9.ls Qbl).mono Qbl (fun b _ hb => by have hb' : xb + 1 ≤ b := hb; omega)⟩, ⟨rfl, g9.le, g9.y0⟩, R9, K9⟩
  clear ha9 hy9 h9 k9 g9
  go_wp2_with fail
  refine bodyPost_ret (v := .agg #[str am.rel, .slice aa an ac, .int .i64 am.at_, .slice sa acc.length sc, .int .i64 (t.at_ : Int)]) (by simp [results, Tryz.results57, go_sem, y_0, y_1, y_2, y_3, y_4]) rfl ?_
  exact Qa HF _ _ _ _ _
 have HY := hide ((Qa H5).2 rfl).1
 have HNL := hide ((Qa H5).2 rfl).2
 have HA1 := hide (Qa H5).1
 clear H5
 obtain ⟨x_0, x_1, x_2, x_3, x_4, xf⟩ := cl5 (Qa G5).b.box
 go_upto_if 25 with fail
 go_cut [] from 13 to 34 (fun wc => ∃ (yF fF : Int), Hid (Gx PLt 16 90 rb g cap l w d i a y xb 80 #[.string ⟨#[]⟩, .slice none 0 0, .int .i64 0, .slice none 0 0, .int .i64 0] (clE w xb (.slice aa an ac) am.args) wc #[str am.rel, .slice aa an ac, .int .i64 am.at_, .slice sa acc.length sc, .int .i64 (t.at_ : Int)] aX yF fF (.slice sa acc.length sc) acc) ∧ Hid (yF = 0 → y1 = 0))
 case first =>
  by_cases h16 : 16 ≤ acc.length
  ·
   have g16 : (16 : Int) ≤ (acc.length : Int) := by omega
   have hfl := Qbm (Qa G5).r (why := 3) (by decide)
   clear h16
   go_wp2_with fail
   refine hfl.mono ?_
   clear hfl
   rintro en wf ⟨_, a3, i3, y3, f3, rfl, rfl, ⟨ea, ei, hY3⟩, h3, k3⟩
   rw [ea, ei] at h3
   clear ea ei
   have GF := hide ((Qa G5).call Qbl (Qhu _ _ _ _) k3 h3 (Nat.le_refl _) (fun e => absurd e hY3))
   have HNY := hide hY3
   clear h3 k3 hY3
   go_wp2_with fail
   go_meet
   exact ⟨_, _, GF, hide (fun e => absurd e (Qa HNY))⟩
  have g16 : ¬ ((16 : Int) ≤ (acc.length : Int)) := by omega
  clear h16
  go_wp2_with fail
  go_meet
  exact ⟨_, _, G5, hide (fun e => e)⟩
 obtain ⟨yF, fF, GF, HYF⟩ := hcut
 obtain ⟨wf, hwf⟩ : ∃ wf, wf = wc := ⟨_, rfl⟩
 subst hwf
 clear x_0 x_1 x_2 x_3 x_4 xf G5
 have GD := hide ((Qa GF).call Qbl (Qhu _ _ _ _) (W' := wf.drew) (Kp.of_below (Below.refl _ wf).drew) ((Qa GF).r.later (Below.refl _ wf).drew) (Nat.le_refl _) (fun e => e))
 have hcl := Qse (Qa GD).r (Qa HD)
 go_wp2_with fail
 refine Qat (m := 7) (ml := [(0, 1), (1, 2), (2, 1), (3, 0), (4, 0), (5, 0), (6, 1), (7, 0)]) (fun ff w' => ff = false → w'.heap[xb]? = some (.cells #[str am.rel, .slice aa an ac, .int .i64 am.at_, .slice sa acc.length sc, .int .i64 (t.at_ : Int)] 80 (0, 0))) mixedO (by kernel_rfl) rfl (by rfl) (by kernel_rfl) (fun PP hPP => ?_)
 refine Qac rfl (by kernel_rfl) (fun _ _ _ => by go_simp <;> rfl) ?_
 refine Qaz (v := ?_) rfl (by kernel_rfl) (fun w' hw => ?_) ?_
 rotate_left
 · (obtain ⟨x_0, x_1, x_2, x_3, x_4, xf⟩ := cl5 (hw rfl); go_simp <;> rfl)
 refine Qac rfl (by kernel_rfl) (fun _ _ _ => by go_simp <;> rfl) ?_
 refine Qab rfl (fun _ => (Qa GD).b.box) (fun K hK => ?_)
 go_simp
 refine hcl.mono ?_
 clear hcl
 rintro en w6 ⟨_, a6, i6, y6, f6, rfl, ⟨x, c0, c1, c2, c3, c4, c5, c6, c7, c8, c9, c10, c11, c12, c13, c14, c15, rfl, hx6⟩, ⟨ei, ha6, hy6⟩, h6, k6⟩
 rw [ei] at h6
 clear ei
 show K _ _
 refine hK _ _ ?_
 clear hK K
 obtain ⟨i0, hi, hz, hsz, hby⟩ := infoL
 obtain ⟨ra, rc, w8, hrun, hr1, hr2, bx8, g8⟩ := (Qa GD).more Qbl (Qhu _ _ _ _) (by kernel_rfl : Tryz.prog.underlying 78 = some (.slice 90)) hi hz hsz hby rfl (by decide) (by decide) (cx := [c0, c1, c2, c3, c4, c5, c6, c7, c8, c9, c10, c11, c12, c13, c14, c15]) rfl (Qeq hx6) hx6 h6 k6 ha6 (fun e => ⟨(hy6 e).1, (hy6 e).2⟩) (by have := Qa HNL; omega) 3
 obtain ⟨w7, hw7⟩ : ∃ w7, w7 = w6.alloc (.cells #[c0, c1, c2, c3, c4, c5, c6, c7, c8, c9, c10, c11, c12, c13, c14, c15] 90) := ⟨_, rfl⟩
 have b7 : Below w6.heap.size w6 w7 := by rw [hw7]; exact (Below.refl _ w6).alloc (Nat.le_refl _) _
 have bx6 := k6.keep (Qa GD).b.box (by have := (Qa GD).b.r1; have := (Qa GD).b.x1; omega)
 have HC6 := hide bx6
 have HC7 := hide ((b7.block _ (Qag bx6)).trans bx6)
 have HC8 := hide bx8
 obtain ⟨z_0, z_1, z_2, z_3, z_4, zf⟩ := cl5 bx8
 have hrun' : (Builtin.append_ #[78, 78] 78 #[.slice sa acc.length sc, .slice (some ⟨w6.heap.size, 0, none⟩) 1 1]).run Tryz.prog w7 = .ok (.slice ra (acc.length + 1) rc) w8 := by rw [hw7]; exact hrun
 have HW7 := hide hw7
 have hlf := Qao (Qa HI).r l.length
 have hlz := Qao g8.r l.length
 have HM := hide (Ya hlf (Ya hlz (Ya (Qa HI).r.lt (Ya g8.r.lt (Ya ha6 hy6)))))
 have HG8 := hide g8
 clear hx6 ha6 hy6 h6 k6 hi hz hsz hby hrun hw7 b7 bx6 bx8 g8 hlf hlz
 refine Qab rfl (fun _ => Qa HC6) (fun K hK => ?_)
 go_simp
 rw [← Qa HW7]
 clear HW7
 refine hK _ _ ?_
 clear hK K
 refine Qab rfl (fun _ => Qa HC7) (fun K hK => Qbp rfl _ _ 78 rfl _ _ rfl rfl hrun' (hK _ _ ?_))
 clear hK K hrun'
 refine Qac rfl (by kernel_rfl) (fun _ _ _ => by go_simp <;> rfl) ?_
 refine Qab rfl (fun _ => Qa HC8) (fun K hK => ?_)
 go_simp
 refine hK _ _ ?_
 clear hK K
 refine Qar (fun h => by cases h) (hPP _ _ ?_)
 clear hPP PP
 go_wp2_with fail
 go_roundw
 case rel => exact ⟨false, acc ++ [x], a6, y6, f6, ra, rc, rfl, by simpa using hr1, hr2, hide (by simpa using Qa HG8)⟩
 obtain ⟨hlf, hlz, m1, m2, ha6, hy6⟩ := Qa HM
 rw [hlf, hlz, if_pos (Qa HY)]
 split
 ·
  rename_i e
  have := hy6 e
  have := Qa HA1
  omega
 · omega
end
section
open Go.RowKit Go.Maps
def tyV (w : World) (w' : World) (v : Value) : Prop := ∃ x : Typ, VTy (fun b => w.heap.size ≤ b) w' v x
theorem Qqd {rb g cap a d i : Nat} {l : List Tok} {w : World} {y f : Int} (h : Rr rb g cap l w a d i y f) (at0 : Int) :
  Calls Tryz.prog 49 #[.pointer (some ⟨rb, 0, none⟩), .int .i64 at0] w fun en w' => RA rb g cap l w d (tyV w) (CoY a i y) en w' := by
 have b0 : Below w.heap.size w (w.alloc (.cells #[.string ⟨#[]⟩, .string ⟨#[]⟩, .slice none 0 0, .int .i64 0] 58)) := (Below.refl _ w).alloc (Nat.le_refl _) _
 have n0 : (w.alloc (.cells #[.string ⟨#[]⟩, .string ⟨#[]⟩, .slice none 0 0, .int .i64 0] 58)).heap[w.heap.size]? = some (.cells #[.string ⟨#[]⟩, .string ⟨#[]⟩, .slice none 0 0, .int .i64 0] 58 (0, 0)) := heap_alloc_new w _
 have s0 : (w.alloc (.cells #[.string ⟨#[]⟩, .string ⟨#[]⟩, .slice none 0 0, .int .i64 0] 58)).heap.size = w.heap.size + 1 := by simp
 have hwd := Qcj (h.later b0)
 have HH := hide (Ya (Qag h.box) h.row.lt)
 have H0 := hide (Ya b0 (Ya n0 s0))
 clear h b0 n0 s0
 go_enter Tryz.func49, Tryz.ntmps49
 go_wp2_with fail
 refine hwd.mono ?_
 clear hwd
 rintro en w2 ⟨_, a2, i2, y2, f2, rfl, ⟨x2, rfl⟩, ⟨ei, ha2, hy2⟩, h2, k2⟩
 rw [ei] at h2
 clear ei
 obtain ⟨b0, n0, s0⟩ := Qa H0
 obtain ⟨g1, g2⟩ := Qa HH
 have hs2 := k2.size
 have n2 := k2.keep n0 (by omega)
 obtain ⟨xb, hxb⟩ : ∃ xb, w2.heap.size = xb := ⟨_, rfl⟩
 obtain ⟨w3, hw3⟩ : ∃ w3, w3 = w2.alloc (.cells #[str x2, .string ⟨#[]⟩, .slice none 0 0, .int .i64 at0] 58) := ⟨_, rfl⟩
 have b3 : Below w2.heap.size w2 w3 := by rw [hw3]; exact (Below.refl _ w2).alloc (Nat.le_refl _) _
 have n3 : w3.heap[xb]? = some (.cells #[str x2, .string ⟨#[]⟩, .slice none 0 0, .int .i64 at0] 58 (0, 0)) := by rw [hw3, ← hxb]; exact heap_alloc_new w2 _
 have q3 := (b3.block _ (by omega)).trans n2
 have G3 : Hid (Gx PC 2 118 rb g cap l w d i a y xb 58 #[.string ⟨#[]⟩, .string ⟨#[]⟩, .slice none 0 0, .int .i64 0] (fun _ => True) w3 #[str x2, .string ⟨#[]⟩, .slice none 0 0, .int .i64 at0] a2 y2 f2 (.slice none 0 0) []) := ⟨h2.later b3, ⟨((Kp.of_below b0).trans k2).trans (Kp.of_below b3), n3, q3, g1, g2, by omega⟩, trivial, Qo.nil _, ha2, hy2, Nat.zero_le _, fun _ => Nat.zero_le _⟩
 have hmy := Qbj (Qa G3).r ⟨#[60, 58]⟩
 have HW3 := hide (Ya hw3 hxb)
 clear b0 n0 s0 g1 g2 hs2 n2 hxb hw3 b3 n3 q3 ha2 hy2 h2 k2 H0
 go_wp2_with fail
 rw [← (Qa HW3).1, (Qa HW3).2]
 clear HW3
 refine hmy.mono ?_
 clear hmy
 rintro en w4 ⟨b, a4, f4, rfl, hb1, hb0, h4, k4⟩
 have G4 := hide ((Qa G3).call Qcz (EK.none _ _) k4 h4 (by
  cases b with
  | true => have := (hb1 rfl).2; omega
  | false => have := hb0 rfl; omega) (fun e => e))
 clear hb1 hb0 h4 k4 G3
 cases b
 ·
  have hms := Qbs (Qa G4).r ⟨#[61]⟩
  go_wp2_with fail
  refine hms.mono ?_
  clear hms
  rintro en w5 ⟨_, a5, i5, y5, f5, rfl, rfl, ⟨ei, ha5, hy5⟩, h5, k5⟩
  rw [ei] at h5
  clear ei
  have G5 := hide ((Qa G4).call Qcz (EK.none _ _) k5 h5 ha5 (fun e => (hy5 e).1))
  clear ha5 hy5 h5 k5 G4
  go_wp2_with fail
  go_loopw [6] (fun fb wr => ∃ (fst : Bool) (acc : List Ctr) (a1 : Nat) (y1 f1 : Int) (sa : Option Addr) (sc : Nat), fb = .bool fst ∧ acc.length ≤ sc ∧ sc ≤ maxLen ∧ Hid (Gx PC 2 118 rb g cap l w d i a y xb 58 #[.string ⟨#[]⟩, .string ⟨#[]⟩, .slice none 0 0, .int .i64 0] (fun _ => True) wr #[str x2, .string ⟨#[]⟩, .slice sa acc.length sc, .int .i64 at0] a1 y1 f1 (.slice sa acc.length sc) acc)) (fun _ wr => leftR rb l.length wr)
  case atStart => exact ⟨true, [], a5, y5, f5, none, 0, rfl, Nat.le_refl _, by unfold maxLen; omega, G5⟩
  obtain ⟨fst, acc, a1, y1, f1, sa, sc, rfl, hc1, hc2, HI⟩ := hrel
  unfold maxLen at hc2
  clear G5
  have hwl := Qbh (Qa HI).r
  by_cases hy : y1 = 0
  ·
   rw [decide_eq_true hy] at hwl
   have HY := hide hy
   clear hy
   cases fst
   ·
    have hmy := Qbj (Qa HI).r ⟨#[124]⟩
    go_wp2_with fail
    refine hwl.mono ?_
    clear hwl
    rintro en wq ⟨rfl, rfl⟩
    go_wp2_with fail
    refine hmy.mono ?_
    clear hmy
    rintro en WX ⟨b, aM, fM, rfl, hb1, hb0, hM, kM⟩
    have eM : a1 ≤ aM := by
     cases b with
     | true => have := (hb1 rfl).2; omega
     | false => have := hb0 rfl; omega
    have GM := hide ((Qa HI).call Qcz (EK.none _ _) kM hM eM (fun e => e))
    have HNL := hide (show acc.length ≤ aM by have := (Qa HI).n0 (Qa HY); omega)
    have HA1 := hide eM
    clear hb1 hb0 hM kM eM
    cases b
    ·
     have g9 := Qa GM
     obtain ⟨x_0, x_1, x_2, x_3, xf⟩ := cl4 g9.b.box
     obtain ⟨y_0, y_1, y_2, y_3, yf⟩ := cl4 g9.b.res
     have HF : Hid (∀ q0 q1 q2 q3, RA rb g cap l w d (tyV w) (CoY a i y) (.returned (.agg #[str x2, .string ⟨#[]⟩, .slice sa acc.length sc, .int .i64 at0])) ((((WX.setCell ⟨w.heap.size, 0, none⟩ q0).setCell ⟨w.heap.size, 1, none⟩ q1).setCell ⟨w.heap.size, 2, none⟩ q2).setCell ⟨w.heap.size, 3, none⟩ q3)) := fun q0 q1 q2 q3 => by
      obtain ⟨R9, K9, _, Q9⟩ := g9.fin Qcz (EK.none _ _) (W' := ((((WX.setCell ⟨w.heap.size, 0, none⟩ q0).setCell ⟨w.heap.size, 1, none⟩ q1).setCell ⟨w.heap.size, 2, none⟩ q2).setCell ⟨w.heap.size, 3, none⟩ q3)) (by simp [World.setCell]) ⟨rfl, rfl, rfl⟩ (fun q hq => by rw [hpS hq, hpS hq, hpS hq, hpS hq])
      have hx1 := g9.b.x1
      exact ⟨_, _, _, _, _, rfl, ⟨⟨x2, [], acc, at0⟩, _, _, _, rfl, (Q9.ls Qcz).mono Qcz (fun b _ hb => by have hb' : xb + 1 ≤ b := hb; omega)⟩, ⟨rfl, g9.le, g9.y0⟩, R9, K9⟩
     clear g9
     go_wp2_with fail
     refine bodyPost_ret (v := .agg #[str x2, .string ⟨#[]⟩, .slice sa acc.length sc, .int .i64 at0]) (by simp [results, Tryz.results49, go_sem, y_0, y_1, y_2, y_3]) rfl ?_
     exact Qa HF _ _ _ _
    have hwd := Qcj (Qa GM).r
    go_wp2_with fail
    refine hwd.mono ?_
    clear hwd
    rintro en w5 ⟨_, a5, i5, y5, f5, rfl, ⟨x5, rfl⟩, ⟨ei, ha5, hy5⟩, h5, k5⟩
    rw [ei] at h5
    clear ei
    obtain ⟨cb, hcb⟩ : ∃ cb, w5.heap.size = cb := ⟨_, rfl⟩
    obtain ⟨w6, hw6⟩ : ∃ w6, w6 = w5.alloc (.cells #[str x5, .slice none 0 0] 118) := ⟨_, rfl⟩
    have b6 : Below w5.heap.size w5 w6 := by rw [hw6]; exact (Below.refl _ w5).alloc (Nat.le_refl _) _
    have n6 : w6.heap[cb]? = some (.cells #[str x5, .slice none 0 0] 118 (0, 0)) := by rw [hw6, ← hcb]; exact heap_alloc_new w5 _
    have s6 : w6.heap.size = cb + 1 := by rw [hw6, ← hcb]; simp
    have hfd := Qer (h5.later b6) ⟨#[123]⟩ ⟨#[125]⟩
    have K6 := hide (Ya (k5.trans (Kp.of_below b6)) (Ya n6 (Ya s6 (Ya (show WX.heap.size ≤ cb by have := k5.size; omega) (Ya ha5 hy5)))))
    have HW6 := hide (Ya hw6 hcb)
    clear ha5 hy5 h5 k5 hcb hw6 b6 n6 s6
    go_wp2_with fail
    rw [← (Qa HW6).1, (Qa HW6).2]
    clear HW6
    refine hfd.mono ?_
    clear hfd
    rintro en w7 ⟨_, a7, i7, y7, f7, rfl, ⟨fs, hfs⟩, ⟨ei, ha7, hy7⟩, h7, k7⟩
    rw [ei] at h7
    clear ei
    obtain ⟨ka, kc, rfl⟩ := hfs.sl
    obtain ⟨k6, n6, s6, hcb, ha5, hy5⟩ := Qa K6
    have hb1 := (Qa GM).b.r1
    have hb2 := (Qa GM).b.g1
    have hb3 := (Qa GM).b.x1
    have hxl := Qag (Qa GM).b.box
    have hs7 := k7.size
    have n7 := k7.keep n6 (by omega)
    obtain ⟨w8, hw8⟩ : ∃ w8, w8 = w7.setCell ⟨cb, 1, none⟩ (.slice ka fs.length kc) := ⟨_, rfl⟩
    have n8 : w8.heap[cb]? = some (.cells #[str x5, .slice ka fs.length kc] 118 (0, 0)) := by rw [hw8]; exact (Qae n7 1 _).trans rfl
    have o8 : ∀ q, q ≠ cb → w8.heap[q]? = w7.heap[q]? := fun q hq => by rw [hw8, hpS hq]
    have s8 : w8.heap.size = w7.heap.size := by rw [hw8]; simp
    have h8 : Rr rb g cap l w8 a7 d i y7 f7 := h7.move (by omega) (o8 rb (by omega)) (o8 g (by omega))
    have k8 : Kp rb WX w8 := by rw [hw8]; exact (k6.trans k7).set2 hcb
    have bx8 := k8.keep (Qa GM).b.box (by omega)
    have hx8 : PC (fun b => WX.heap.size ≤ b) w8 [str x5, .slice ka fs.length kc] ⟨x5, fs⟩ := ⟨_, _, _, rfl, (hfs.same Qbt (by omega) (fun b hb hl => o8 b (by have hb' : w6.heap.size ≤ b := hb; omega))).mono Qbt (fun b _ hb => by have hb' : w6.heap.size ≤ b := hb; omega)⟩
    obtain ⟨i0, hi, hz, hsz, hby⟩ := infoC
    obtain ⟨ra, rc, w9, hrun, hr1, hr2, bx9, g9⟩ := (Qa GM).more Qcz (EK.none _ _) (by kernel_rfl : Tryz.prog.underlying 56 = some (.slice 118)) hi hz hsz hby rfl (by decide) (by decide) (cx := [str x5, .slice ka fs.length kc]) rfl (by simp [Value.oneCell', str]) hx8 h8 k8 (by omega) (fun e => ⟨(hy5 (hy7 e).1).1, by have := (hy5 (hy7 e).1).2; omega⟩) (by have := Qa HNL; omega) 2
    obtain ⟨x_0, x_1, x_2, x_3, xf⟩ := cl4 bx8
    obtain ⟨u_0, u_1, uf⟩ := cl2 n7
    obtain ⟨v_0, v_1, vf⟩ := cl2 n8
    obtain ⟨z_0, z_1, z_2, z_3, zf⟩ := cl4 bx9
    have hlf := Qao (Qa HI).r l.length
    have hlz := Qao g9.r l.length
    have HM := hide (Ya hlf (Ya hlz (Ya (Qa HI).r.lt (Ya g9.r.lt (Ya ha5 (Ya hy5 (Ya ha7 hy7)))))))
    rw [show w8.heap.size = w7.heap.size from s8] at hrun
    rw [hw8] at hrun x_2 v_0 v_1
    have HRUN := hide hrun
    have HG9 := hide g9
    clear hfs h7 k7 k6 n6 s6 hcb ha5 hy5 hb1 hb2 hb3 hxl hs7 n7 hw8 n8 o8 s8 h8 k8 bx8 hx8 hi hz hsz hby hrun bx9 g9 hlf hlz ha7 hy7 x_0 x_1 x_3 xf
    go_wp2_with (at_builtin; refine Qas _ rfl _ _ 56 rfl _ _ rfl rfl _ _ (Qa HRUN) ?_; clear HRUN)
    go_roundw
    case rel => exact ⟨false, acc ++ [⟨x5, fs⟩], a7, y7, f7, ra, rc, rfl, by simpa using hr1, hr2, hide (by simpa using Qa HG9)⟩
    obtain ⟨hlf, hlz, m1, m2, ha5, hy5, ha7, hy7⟩ := Qa HM
    rw [hlf, hlz, if_pos (Qa HY)]
    split
    ·
     rename_i e
     have e7 := hy7 e
     have e5 := hy5 e7.1
     have := Qa HA1
     omega
    · omega
   go_wp2_with fail
   refine hwl.mono ?_
   clear hwl
   rintro en wq ⟨rfl, rfl⟩
   have HNL := hide ((Qa HI).n0 (Qa HY))
   have HA1 := hide (Nat.le_refl a1)
   have hwd := Qcj (Qa HI).r
   go_wp2_with fail
   refine hwd.mono ?_
   clear hwd
   rintro en w5 ⟨_, a5, i5, y5, f5, rfl, ⟨x5, rfl⟩, ⟨ei, ha5, hy5⟩, h5, k5⟩
   rw [ei] at h5
   clear ei
   obtain ⟨cb, hcb⟩ : ∃ cb, w5.heap.size = cb := ⟨_, rfl⟩
   obtain ⟨w6, hw6⟩ : ∃ w6, w6 = w5.alloc (.cells #[str x5, .slice none 0 0] 118) := ⟨_, rfl⟩
   have b6 : Below w5.heap.size w5 w6 := by rw [hw6]; exact (Below.refl _ w5).alloc (Nat.le_refl _) _
   have n6 : w6.heap[cb]? = some (.cells #[str x5, .slice none 0 0] 118 (0, 0)) := by rw [hw6, ← hcb]; exact heap_alloc_new w5 _
   have s6 : w6.heap.size = cb + 1 := by rw [hw6, ← hcb]; simp
   have hfd := Qer (h5.later b6) ⟨#[123]⟩ ⟨#[125]⟩
   have K6 := hide (Ya (k5.trans (Kp.of_below b6)) (Ya n6 (Ya s6 (Ya (show wq.heap.size ≤ cb by have := k5.size; omega) (Ya ha5 hy5)))))
   have HW6 := hide (Ya hw6 hcb)
   clear ha5 hy5 h5 k5 hcb hw6 b6 n6 s6
   go_wp2_with fail
   rw [← (Qa HW6).1, (Qa HW6).2]
   clear HW6
   refine hfd.mono ?_
   clear hfd
   rintro en w7 ⟨_, a7, i7, y7, f7, rfl, ⟨fs, hfs⟩, ⟨ei, ha7, hy7⟩, h7, k7⟩
   rw [ei] at h7
   clear ei
   obtain ⟨ka, kc, rfl⟩ := hfs.sl
   obtain ⟨k6, n6, s6, hcb, ha5, hy5⟩ := Qa K6
   have hb1 := (Qa HI).b.r1
   have hb2 := (Qa HI).b.g1
   have hb3 := (Qa HI).b.x1
   have hxl := Qag (Qa HI).b.box
   have hs7 := k7.size
   have n7 := k7.keep n6 (by omega)
   obtain ⟨w8, hw8⟩ : ∃ w8, w8 = w7.setCell ⟨cb, 1, none⟩ (.slice ka fs.length kc) := ⟨_, rfl⟩
   have n8 : w8.heap[cb]? = some (.cells #[str x5, .slice ka fs.length kc] 118 (0, 0)) := by rw [hw8]; exact (Qae n7 1 _).trans rfl
   have o8 : ∀ q, q ≠ cb → w8.heap[q]? = w7.heap[q]? := fun q hq => by rw [hw8, hpS hq]
   have s8 : w8.heap.size = w7.heap.size := by rw [hw8]; simp
   have h8 : Rr rb g cap l w8 a7 d i y7 f7 := h7.move (by omega) (o8 rb (by omega)) (o8 g (by omega))
   have k8 : Kp rb wq w8 := by rw [hw8]; exact (k6.trans k7).set2 hcb
   have bx8 := k8.keep (Qa HI).b.box (by omega)
   have hx8 : PC (fun b => wq.heap.size ≤ b) w8 [str x5, .slice ka fs.length kc] ⟨x5, fs⟩ := ⟨_, _, _, rfl, (hfs.same Qbt (by omega) (fun b hb hl => o8 b (by have hb' : w6.heap.size ≤ b := hb; omega))).mono Qbt (fun b _ hb => by have hb' : w6.heap.size ≤ b := hb; omega)⟩
   obtain ⟨i0, hi, hz, hsz, hby⟩ := infoC
   obtain ⟨ra, rc, w9, hrun, hr1, hr2, bx9, g9⟩ := (Qa HI).more Qcz (EK.none _ _) (by kernel_rfl : Tryz.prog.underlying 56 = some (.slice 118)) hi hz hsz hby rfl (by decide) (by decide) (cx := [str x5, .slice ka fs.length kc]) rfl (by simp [Value.oneCell', str]) hx8 h8 k8 (by omega) (fun e => ⟨(hy5 (hy7 e).1).1, by have := (hy5 (hy7 e).1).2; omega⟩) (by have := Qa HNL; omega) 2
   obtain ⟨x_0, x_1, x_2, x_3, xf⟩ := cl4 bx8
   obtain ⟨u_0, u_1, uf⟩ := cl2 n7
   obtain ⟨v_0, v_1, vf⟩ := cl2 n8
   obtain ⟨z_0, z_1, z_2, z_3, zf⟩ := cl4 bx9
   have hlf := Qao (Qa HI).r l.length
   have hlz := Qao g9.r l.length
   have HM := hide (Ya hlf (Ya hlz (Ya (Qa HI).r.lt (Ya g9.r.lt (Ya ha5 (Ya hy5 (Ya ha7 hy7)))))))
   rw [show w8.heap.size = w7.heap.size from s8] at hrun
   rw [hw8] at hrun x_2 v_0 v_1
   have HRUN := hide hrun
   have HG9 := hide g9
   clear hfs h7 k7 k6 n6 s6 hcb ha5 hy5 hb1 hb2 hb3 hxl hs7 n7 hw8 n8 o8 s8 h8 k8 bx8 hx8 hi hz hsz hby hrun bx9 g9 hlf hlz ha7 hy7 x_0 x_1 x_3 xf
   go_wp2_with (at_builtin; refine Qas _ rfl _ _ 56 rfl _ _ rfl rfl _ _ (Qa HRUN) ?_; clear HRUN)
   go_roundw
   case rel => exact ⟨false, acc ++ [⟨x5, fs⟩], a7, y7, f7, ra, rc, rfl, by simpa using hr1, hr2, hide (by simpa using Qa HG9)⟩
   obtain ⟨hlf, hlz, m1, m2, ha5, hy5, ha7, hy7⟩ := Qa HM
   rw [hlf, hlz, if_pos (Qa HY)]
   split
   ·
    rename_i e
    have e7 := hy7 e
    have e5 := hy5 e7.1
    have := Qa HA1
    omega
   · omega
  rw [decide_eq_false hy] at hwl
  clear hy
  go_wp2_with fail
  refine hwl.mono ?_
  clear hwl
  rintro en wq ⟨rfl, rfl⟩
  have g9 := Qa HI
  obtain ⟨x_0, x_1, x_2, x_3, xf⟩ := cl4 g9.b.box
  obtain ⟨y_0, y_1, y_2, y_3, yf⟩ := cl4 g9.b.res
  have HF : Hid (∀ q0 q1 q2 q3, RA rb g cap l w d (tyV w) (CoY a i y) (.returned (.agg #[str x2, .string ⟨#[]⟩, .slice sa acc.length sc, .int .i64 at0])) ((((wq.setCell ⟨w.heap.size, 0, none⟩ q0).setCell ⟨w.heap.size, 1, none⟩ q1).setCell ⟨w.heap.size, 2, none⟩ q2).setCell ⟨w.heap.size, 3, none⟩ q3)) := fun q0 q1 q2 q3 => by
   obtain ⟨R9, K9, _, Q9⟩ := g9.fin Qcz (EK.none _ _) (W' := ((((wq.setCell ⟨w.heap.size, 0, none⟩ q0).setCell ⟨w.heap.size, 1, none⟩ q1).setCell ⟨w.heap.size, 2, none⟩ q2).setCell ⟨w.heap.size, 3, none⟩ q3)) (by simp [World.setCell]) ⟨rfl, rfl, rfl⟩ (fun q hq => by rw [hpS hq, hpS hq, hpS hq, hpS hq])
   have hx1 := g9.b.x1
   exact ⟨_, _, _, _, _, rfl, ⟨⟨x2, [], acc, at0⟩, _, _, _, rfl, (Q9.ls Qcz).mono Qcz (fun b _ hb => by have hb' : xb + 1 ≤ b := hb; omega)⟩, ⟨rfl, g9.le, g9.y0⟩, R9, K9⟩
  clear g9
  go_wp2_with fail
  refine bodyPost_ret (v := .agg #[str x2, .string ⟨#[]⟩, .slice sa acc.length sc, .int .i64 at0]) (by simp [results, Tryz.results49, go_sem, y_0, y_1, y_2, y_3]) rfl ?_
  exact Qa HF _ _ _ _
 have hnm := Qdm (Qa G4).r
 go_wp2_with fail
 refine hnm.mono ?_
 clear hnm
 rintro en w5 ⟨_, a5, i5, y5, f5, rfl, ⟨x5, rfl⟩, ⟨ei, ha5, hy5⟩, h5, k5⟩
 rw [ei] at h5
 clear ei
 have g5 := (Qa G4).call Qcz (EK.none _ _) k5 h5 ha5 (fun e => (hy5 e).1)
 obtain ⟨w6, hw6⟩ : ∃ w6, w6 = w5.setCell ⟨xb, 1, none⟩ (str x5) := ⟨_, rfl⟩
 have g6 : Gx PC 2 118 rb g cap l w d i a y xb 58 #[.string ⟨#[]⟩, .string ⟨#[]⟩, .slice none 0 0, .int .i64 0] (fun _ => True) w6 #[str x2, str x5, .slice none 0 0, .int .i64 at0] a5 y5 f5 (.slice none 0 0) [] := by
  have hx1 := g5.b.x1
  rw [hw6]
  exact ⟨g5.r.atBox ⟨by have := g5.b.r1; omega, by have := g5.b.g1; omega⟩ 1 _, g5.b.set 1 _, trivial, Qo.nil _, g5.le, g5.y0, g5.n, g5.n0⟩
 obtain ⟨w_0, w_1, w_2, w_3, wf⟩ := cl4 g5.b.box
 obtain ⟨x_0, x_1, x_2, x_3, xf⟩ := cl4 g6.b.box
 obtain ⟨y_0, y_1, y_2, y_3, yf⟩ := cl4 g6.b.res
 have HF : Hid (∀ q0 q1 q2 q3, RA rb g cap l w d (tyV w) (CoY a i y) (.returned (.agg #[str x2, str x5, .slice none 0 0, .int .i64 at0])) ((((w6.setCell ⟨w.heap.size, 0, none⟩ q0).setCell ⟨w.heap.size, 1, none⟩ q1).setCell ⟨w.heap.size, 2, none⟩ q2).setCell ⟨w.heap.size, 3, none⟩ q3)) := fun q0 q1 q2 q3 => by
  obtain ⟨R9, K9, _, Q9⟩ := g6.fin Qcz (EK.none _ _) (W' := ((((w6.setCell ⟨w.heap.size, 0, none⟩ q0).setCell ⟨w.heap.size, 1, none⟩ q1).setCell ⟨w.heap.size, 2, none⟩ q2).setCell ⟨w.heap.size, 3, none⟩ q3)) (by simp [World.setCell]) ⟨rfl, rfl, rfl⟩ (fun q hq => by rw [hpS hq, hpS hq, hpS hq, hpS hq])
  have hx1 := g6.b.x1
  exact ⟨_, _, _, _, _, rfl, ⟨⟨x2, x5, [], at0⟩, _, _, _, rfl, (Q9.ls Qcz).mono Qcz (fun b _ hb => by have hb' : xb + 1 ≤ b := hb; omega)⟩, ⟨rfl, g6.le, g6.y0⟩, R9, K9⟩
 clear h5 k5 ha5 hy5 g5 g6 w_0 w_2 w_3
 subst hw6
 go_wp2_with fail
 refine bodyPost_ret (v := .agg #[str x2, str x5, .slice none 0 0, .int .i64 at0]) (by simp [results, Tryz.results49, go_sem, y_0, y_1, y_2, y_3]) rfl ?_
 exact Qa HF _ _ _ _
end
end Go.Proofs.YtjebglmpopijhaaGreatDoor
