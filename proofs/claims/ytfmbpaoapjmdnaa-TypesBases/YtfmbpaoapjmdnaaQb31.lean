/- The document's reader: clause. The document's reader by the tokens that are next: a clause with a body. The document's reader: what is asked of a type besides. -/
import Derived.Test.YtfmbpaoapjmdnaaQb15
import Derived.Test.YtfmbpaoapjmdnaaQb19
import Derived.Test.YtfmbpaoapjmdnaaQb05
import Derived.Deep.Cut
import Derived.Deep.CutRange
import Derived.Test.YtfmbpaoapjmdnaaQb30
set_option maxRecDepth 100000
set_option maxHeartbeats 32000000
namespace Go.Proofs.Ytfmbpaoapjmdnaa
section
open Go.RowKit Go.Maps
def clV (w : World) (w' : World) (v : Value) : Prop := ∃ x : Cls, VCl (fun b => w.heap.size ≤ b) w' v x
def clE (w : World) (xb : Nat) (v : Value) (xs : List Ex) (W : World) : Prop := LsAt PE 5 (fun b => w.heap.size < b ∧ b < xb) W v xs
theorem Qdu (w : World) (xb : Nat) (v : Value) (xs : List Ex) : EK w xb (clE w xb v xs) := fun _ _ hs hb h => LsAt.same Qae h hs (fun b hq hl => hb b hq.1 hq.2 hl)
theorem Qfw {rb g cap a d i : Nat} {l : List Tok} {w : World} {y f : Int} (h : Rr rb g cap l w a d i y f) (hd : d ≤ 63) :
  Calls Try.prog 60 #[.pointer (some ⟨rb, 0, none⟩)] w fun en w' => RA rb g cap l w d (clV w) (CoY a i y) en w' := by
 have b0 : Below w.heap.size w (w.alloc (.cells #[.string ⟨#[]⟩, .slice none 0 0, .int .i64 0, .slice none 0 0, .int .i64 0] 78)) := (Below.refl _ w).alloc (Nat.le_refl _) _
 have n0 : (w.alloc (.cells #[.string ⟨#[]⟩, .slice none 0 0, .int .i64 0, .slice none 0 0, .int .i64 0] 78)).heap[w.heap.size]? = some (.cells #[.string ⟨#[]⟩, .slice none 0 0, .int .i64 0, .slice none 0 0, .int .i64 0] 78 (0, 0)) := heap_alloc_new w _
 have s0 : (w.alloc (.cells #[.string ⟨#[]⟩, .slice none 0 0, .int .i64 0, .slice none 0 0, .int .i64 0] 78)).heap.size = w.heap.size + 1 := by simp
 obtain ⟨t, ht⟩ := h.tok
 have HNW : Hid (∀ w', Below w.heap.size w w' → Calls Try.prog 17 #[.pointer (some ⟨rb, 0, none⟩)] w' fun en w2 => en = .returned (.agg #[.int .i64 t.kind, str t.text, .int .i64 t.num, .int .i64 (t.at_ : Int)]) ∧ Below w'.heap.size w' w2) := fun w' bb => Qak (h.later bb) ht
 have HH := hide h
 have HD := hide hd
 have H0 := hide (Ya b0 (Ya n0 s0))
 clear h hd ht b0 n0 s0
 go_enter Try.func60, Try.ntmps60
 go_wp2_with fail
 refine (Qa HNW _ (Qa H0).1).mono ?_
 rintro en w1 ⟨rfl, b1⟩
 obtain ⟨b0, n0, s0⟩ := Qa H0
 have hb1 := b0.trans (b1.mono (by omega))
 have n1 := (b1.block _ (by omega)).trans n0
 have hat := Qfv ((Qa HH).later hb1) (Qa HD)
 have hrl := Qab (Qa HH).box
 have hgl := (Qa HH).row.lt
 have hs1 := b1.size
 have K1 := hide (Ya (Kp.of_below (rb := rb) hb1) (Ya n1 (show rb < w.heap.size ∧ g < w.heap.size ∧ w.heap.size < w1.heap.size by omega)))
 clear b1 b0 n0 s0 hb1 n1 hrl hgl hs1 HNW H0
 go_wp2_with fail
 rename_i hK
 refine hK _ _ ?_
 clear hK
 go_wp2_with fail
 refine hat.mono ?_
 clear hat
 rintro en w2 ⟨_, a2, i2, y2, f2, rfl, ⟨am, aa, an, ac, rfl, hks⟩, ⟨ei, ha2, hy2⟩, h2, k2⟩
 rw [ei] at h2
 clear ei
 obtain ⟨k1, n1, g1, g2, g3⟩ := Qa K1
 have hs2 := k2.size
 have n2 := k2.keep n1 (by omega)
 obtain ⟨xb, hxb⟩ : ∃ xb, w2.heap.size = xb := ⟨_, rfl⟩
 obtain ⟨w3, hw3⟩ : ∃ w3, w3 = w2.alloc (.cells #[str am.rel, .slice aa an ac, .int .i64 am.at_, .slice none 0 0, .int .i64 (t.at_ : Int)] 78) := ⟨_, rfl⟩
 have b3 : Below w2.heap.size w2 w3 := by rw [hw3]; exact (Below.refl _ w2).alloc (Nat.le_refl _) _
 have n3 : w3.heap[xb]? = some (.cells #[str am.rel, .slice aa an ac, .int .i64 am.at_, .slice none 0 0, .int .i64 (t.at_ : Int)] 78 (0, 0)) := by rw [hw3, ← hxb]; exact heap_alloc_new w2 _
 have q3 := (b3.block _ (by omega)).trans n2
 have hE3 : clE w xb (.slice aa an ac) am.args w3 := LsAt.same Qae (hks.mono Qae (fun b hl hb => (⟨by have hb' : w1.heap.size ≤ b := hb; omega, by omega⟩ : w.heap.size < b ∧ b < xb))) b3.size (fun q _ hl => b3.block q hl)
 have G3 : Hid (Gx PLt 16 128 rb g cap l w d i a y xb 78 #[.string ⟨#[]⟩, .slice none 0 0, .int .i64 0, .slice none 0 0, .int .i64 0] (clE w xb (.slice aa an ac) am.args) w3 #[str am.rel, .slice aa an ac, .int .i64 am.at_, .slice none 0 0, .int .i64 (t.at_ : Int)] a2 y2 f2 (.slice none 0 0) []) := ⟨h2.later b3, ⟨(k1.trans k2).trans (Kp.of_below b3), n3, q3, g1, g2, by omega⟩, hE3, Qo.nil _, ha2, hy2, Nat.zero_le _, fun _ => Nat.zero_le _⟩
 have hmy := Qb (Qa G3).r ⟨#[58, 45]⟩
 have HW3 := hide (Ya hw3 hxb)
 clear k1 n1 g1 g2 g3 hs2 n2 hxb hw3 b3 n3 q3 hE3 hks ha2 hy2 h2 k2 K1
 go_wp2_with fail
 rw [← (Qa HW3).1, (Qa HW3).2]
 clear HW3
 refine hmy.mono ?_
 clear hmy
 rintro en w4 ⟨b, a4, f4, rfl, hb1, hb0, h4, k4⟩
 have G4 := hide ((Qa G3).call Qay (Qdu _ _ _ _) k4 h4 (by
  cases b with
  | true => have := (hb1 rfl).2; omega
  | false => have := hb0 rfl; omega) (fun e => e))
 clear hb1 hb0 h4 k4 G3
 cases b
 ·
  have hms := Qbd (Qa G4).r ⟨#[46]⟩
  go_wp2_with fail
  refine hms.mono ?_
  clear hms
  rintro en w9 ⟨_, a9, i9, y9, f9, rfl, rfl, ⟨ei, ha9, hy9⟩, h9, k9⟩
  rw [ei] at h9
  clear ei
  have g9 := (Qa G4).call Qay (Qdu _ _ _ _) k9 h9 ha9 (fun e => (hy9 e).1)
  obtain ⟨x_0, x_1, x_2, x_3, x_4, xf⟩ := cl5 g9.b.box
  obtain ⟨y_0, y_1, y_2, y_3, y_4, yf⟩ := cl5 g9.b.res
  have HF : Hid (∀ q0 q1 q2 q3 q4, RA rb g cap l w d (clV w) (CoY a i y) (.returned (.agg #[str am.rel, .slice aa an ac, .int .i64 am.at_, .slice none 0 0, .int .i64 (t.at_ : Int)])) (((((w9.setCell ⟨w.heap.size, 0, none⟩ q0).setCell ⟨w.heap.size, 1, none⟩ q1).setCell ⟨w.heap.size, 2, none⟩ q2).setCell ⟨w.heap.size, 3, none⟩ q3).setCell ⟨w.heap.size, 4, none⟩ q4)) := fun q0 q1 q2 q3 q4 => by
   obtain ⟨R9, K9, E9, Q9⟩ := g9.fin Qay (Qdu _ _ _ _) (W' := (((((w9.setCell ⟨w.heap.size, 0, none⟩ q0).setCell ⟨w.heap.size, 1, none⟩ q1).setCell ⟨w.heap.size, 2, none⟩ q2).setCell ⟨w.heap.size, 3, none⟩ q3).setCell ⟨w.heap.size, 4, none⟩ q4)) (by simp [World.setCell]) ⟨rfl, rfl, rfl⟩ (fun q hq => by rw [hpS hq, hpS hq, hpS hq, hpS hq, hpS hq])
   have hx1 := g9.b.x1
   exact ⟨_, _, _, _, _, rfl, ⟨⟨am, [], t.at_⟩, aa, an, ac, _, _, _, rfl, E9.mono Qae (fun b _ hb => by omega), (Q9.ls Qay).mono Qay (fun b _ hb => by have hb' : xb + 1 ≤ b := hb; omega)⟩, ⟨rfl, g9.le, g9.y0⟩, R9, K9⟩
  clear ha9 hy9 h9 k9 g9
  go_wp2_with fail
  refine bodyPost_ret (v := .agg #[str am.rel, .slice aa an ac, .int .i64 am.at_, .slice none 0 0, .int .i64 (t.at_ : Int)]) (by simp [results, Try.results60, go_sem, y_0, y_1, y_2, y_3, y_4]) rfl ?_
  exact Qa HF _ _ _ _ _
 go_wp2_with fail
 go_loopw [4] (fun fb wr => ∃ (fst : Bool) (acc : List Lt) (a1 : Nat) (y1 f1 : Int) (sa : Option Addr) (sc : Nat), fb = .bool fst ∧ acc.length ≤ sc ∧ sc ≤ maxLen ∧ Hid (Gx PLt 16 128 rb g cap l w d i a y xb 78 #[.string ⟨#[]⟩, .slice none 0 0, .int .i64 0, .slice none 0 0, .int .i64 0] (clE w xb (.slice aa an ac) am.args) wr #[str am.rel, .slice aa an ac, .int .i64 am.at_, .slice sa acc.length sc, .int .i64 (t.at_ : Int)] a1 y1 f1 (.slice sa acc.length sc) acc)) (fun _ wr => leftR rb l.length wr)
 case atStart => exact ⟨true, [], a4, y2, f4, none, 0, rfl, Nat.le_refl _, by unfold maxLen; omega, G4⟩
 obtain ⟨fst, acc, a1, y1, f1, sa, sc, rfl, hc1, hc2, HI⟩ := hrel
 unfold maxLen at hc2
 clear G4
 go_upto_region 4 with fail
 go_cut [21] from 13 to 34 (fun c wc => ∃ (b : Bool) (aX : Nat) (fX : Int), c = .bool b ∧ Hid (Gx PLt 16 128 rb g cap l w d i a y xb 78 #[.string ⟨#[]⟩, .slice none 0 0, .int .i64 0, .slice none 0 0, .int .i64 0] (clE w xb (.slice aa an ac) am.args) wc #[str am.rel, .slice aa an ac, .int .i64 am.at_, .slice sa acc.length sc, .int .i64 (t.at_ : Int)] aX y1 fX (.slice sa acc.length sc) acc) ∧ Hid (a1 ≤ aX ∧ (b = true → y1 = 0 ∧ acc.length ≤ aX)))
 case first =>
  have hwl := Qao (Qa HI).r
  by_cases hy : y1 = 0
  ·
   rw [decide_eq_true hy] at hwl
   have HY := hide hy
   clear hy
   cases fst
   ·
    have hmy := Qb (Qa HI).r ⟨#[44]⟩
    go_wp2_with fail
    refine hwl.mono ?_
    clear hwl
    rintro en wq ⟨rfl, rfl⟩
    go_wp2_with fail
    refine hmy.mono ?_
    clear hmy
    rintro en WX ⟨b, a7, f7, rfl, hb1, hb0, h7, k7⟩
    have e7 : a1 ≤ a7 := by
     cases b with
     | true => have := (hb1 rfl).2; omega
     | false => have := hb0 rfl; omega
    have G7 := hide ((Qa HI).call Qay (Qdu _ _ _ _) k7 h7 e7 (fun e => e))
    have HA1 := hide e7
    clear hb1 hb0 h7 k7 e7
    cases b
    ·
     go_wp2_with fail
     go_meet
     exact ⟨false, a7, f7, rfl, G7, hide ⟨Qa HA1, fun e => by cases e⟩⟩
    go_wp2_with fail
    go_meet
    exact ⟨true, a7, f7, rfl, G7, hide ⟨Qa HA1, fun _ => ⟨Qa HY, by have := (Qa HI).n0 (Qa HY); have := Qa HA1; omega⟩⟩⟩
   go_wp2_with fail
   refine hwl.mono ?_
   clear hwl
   rintro en wq ⟨rfl, rfl⟩
   go_wp2_with fail
   go_meet
   exact ⟨true, a1, f1, rfl, HI, hide ⟨Nat.le_refl _, fun _ => ⟨Qa HY, (Qa HI).n0 (Qa HY)⟩⟩⟩
  rw [decide_eq_false hy] at hwl
  clear hy
  go_wp2_with fail
  refine hwl.mono ?_
  clear hwl
  rintro en wq ⟨rfl, rfl⟩
  go_wp2_with fail
  go_meet
  exact ⟨false, a1, f1, rfl, HI, hide ⟨Nat.le_refl _, fun e => by cases e⟩⟩
 obtain ⟨b, aX, fX, rfl, G5, H5⟩ := hcut
 obtain ⟨wX, hwX⟩ : ∃ wX, wX = wc := ⟨_, rfl⟩
 subst hwX
 cases b
 ·
  have hms := Qbd (Qa G5).r ⟨#[46]⟩
  go_wp2_with fail
  refine hms.mono ?_
  clear hms
  rintro en w9 ⟨_, a9, i9, y9, f9, rfl, rfl, ⟨ei, ha9, hy9⟩, h9, k9⟩
  rw [ei] at h9
  clear ei
  have g9 := (Qa G5).call Qay (Qdu _ _ _ _) k9 h9 ha9 (fun e => (hy9 e).1)
  obtain ⟨x_0, x_1, x_2, x_3, x_4, xf⟩ := cl5 g9.b.box
  obtain ⟨y_0, y_1, y_2, y_3, y_4, yf⟩ := cl5 g9.b.res
  have HF : Hid (∀ q0 q1 q2 q3 q4, RA rb g cap l w d (clV w) (CoY a i y) (.returned (.agg #[str am.rel, .slice aa an ac, .int .i64 am.at_, .slice sa acc.length sc, .int .i64 (t.at_ : Int)])) (((((w9.setCell ⟨w.heap.size, 0, none⟩ q0).setCell ⟨w.heap.size, 1, none⟩ q1).setCell ⟨w.heap.size, 2, none⟩ q2).setCell ⟨w.heap.size, 3, none⟩ q3).setCell ⟨w.heap.size, 4, none⟩ q4)) := fun q0 q1 q2 q3 q4 => by
   obtain ⟨R9, K9, E9, Q9⟩ := g9.fin Qay (Qdu _ _ _ _) (W' := (((((w9.setCell ⟨w.heap.size, 0, none⟩ q0).setCell ⟨w.heap.size, 1, none⟩ q1).setCell ⟨w.heap.size, 2, none⟩ q2).setCell ⟨w.heap.size, 3, none⟩ q3).setCell ⟨w.heap.size, 4, none⟩ q4)) (by simp [World.setCell]) ⟨rfl, rfl, rfl⟩ (fun q hq => by rw [hpS hq, hpS hq, hpS hq, hpS hq, hpS hq])
   have hx1 := g9.b.x1
   exact ⟨_, _, _, _, _, rfl, ⟨⟨am, acc, t.at_⟩, aa, an, ac, _, _, _, rfl, E9.mono Qae (fun b _ hb => by omega), (Q9.ls Qay).mono Qay (fun b _ hb => by have hb' : xb + 1 ≤ b := hb; omega)⟩, ⟨rfl, g9.le, g9.y0⟩, R9, K9⟩
  clear ha9 hy9 h9 k9 g9
  go_wp2_with fail
  refine bodyPost_ret (v := .agg #[str am.rel, .slice aa an ac, .int .i64 am.at_, .slice sa acc.length sc, .int .i64 (t.at_ : Int)]) (by simp [results, Try.results60, go_sem, y_0, y_1, y_2, y_3, y_4]) rfl ?_
  exact Qa HF _ _ _ _ _
 have HY := hide ((Qa H5).2 rfl).1
 have HNL := hide ((Qa H5).2 rfl).2
 have HA1 := hide (Qa H5).1
 clear H5
 obtain ⟨x_0, x_1, x_2, x_3, x_4, xf⟩ := cl5 (Qa G5).b.box
 go_upto_if 25 with fail
 go_cut [] from 13 to 34 (fun wc => ∃ (yF fF : Int), Hid (Gx PLt 16 128 rb g cap l w d i a y xb 78 #[.string ⟨#[]⟩, .slice none 0 0, .int .i64 0, .slice none 0 0, .int .i64 0] (clE w xb (.slice aa an ac) am.args) wc #[str am.rel, .slice aa an ac, .int .i64 am.at_, .slice sa acc.length sc, .int .i64 (t.at_ : Int)] aX yF fF (.slice sa acc.length sc) acc) ∧ Hid (yF = 0 → y1 = 0))
 case first =>
  by_cases h16 : 16 ≤ acc.length
  ·
   have g16 : (16 : Int) ≤ (acc.length : Int) := by omega
   have hfl := Qax (Qa G5).r (why := 3) (by decide)
   clear h16
   go_wp2_with fail
   refine hfl.mono ?_
   clear hfl
   rintro en wf ⟨_, a3, i3, y3, f3, rfl, rfl, ⟨ea, ei, hY3⟩, h3, k3⟩
   rw [ea, ei] at h3
   clear ea ei
   have GF := hide ((Qa G5).call Qay (Qdu _ _ _ _) k3 h3 (Nat.le_refl _) (fun e => absurd e hY3))
   have HNY := hide hY3
   clear h3 k3 hY3
   go_wp2_with fail
   go_meet
   exact ⟨_, _, GF, hide (fun e => absurd e (Qa HNY))⟩
  have g16 : ¬ ((16 : Int) ≤ (acc.length : Int)) := by omega
  clear h16
  go_wp2_with fail
  go_meet
  exact ⟨_, _, G5, hide (fun e => e)⟩
 obtain ⟨yF, fF, GF, HYF⟩ := hcut
 obtain ⟨wf, hwf⟩ : ∃ wf, wf = wc := ⟨_, rfl⟩
 subst hwf
 clear x_0 x_1 x_2 x_3 x_4 xf G5
 have GD := hide ((Qa GF).call Qay (Qdu _ _ _ _) (W' := wf.drew) (Kp.of_below (Below.refl _ wf).drew) ((Qa GF).r.later (Below.refl _ wf).drew) (Nat.le_refl _) (fun e => e))
 have hcl := Qpy (Qa GD).r (Qa HD)
 go_wp2_with fail
 refine Qam (m := 7) (ml := [(0, 1), (1, 2), (2, 1), (3, 0), (4, 0), (5, 0), (6, 1), (7, 0)]) (fun ff w' => ff = false → w'.heap[xb]? = some (.cells #[str am.rel, .slice aa an ac, .int .i64 am.at_, .slice sa acc.length sc, .int .i64 (t.at_ : Int)] 78 (0, 0))) mixedO (by kernel_rfl) rfl (by rfl) (by kernel_rfl) (fun PP hPP => ?_)
 refine Qad rfl (by kernel_rfl) (fun _ _ _ => by go_simp <;> rfl) ?_
 refine Qaq (v := ?_) rfl (by kernel_rfl) (fun w' hw => ?_) ?_
 rotate_left
 · (obtain ⟨x_0, x_1, x_2, x_3, x_4, xf⟩ := cl5 (hw rfl); go_simp <;> rfl)
 refine Qad rfl (by kernel_rfl) (fun _ _ _ => by go_simp <;> rfl) ?_
 refine Qaa rfl (fun _ => (Qa GD).b.box) (fun K hK => ?_)
 go_simp
 refine hcl.mono ?_
 clear hcl
 rintro en w6 ⟨_, a6, i6, y6, f6, rfl, ⟨x, c0, c1, c2, c3, c4, c5, c6, c7, c8, c9, c10, c11, c12, c13, c14, c15, rfl, hx6⟩, ⟨ei, ha6, hy6⟩, h6, k6⟩
 rw [ei] at h6
 clear ei
 show K _ _
 refine hK _ _ ?_
 clear hK K
 obtain ⟨i0, hi, hz, hsz, hby⟩ := infoL
 obtain ⟨ra, rc, w8, hrun, hr1, hr2, bx8, g8⟩ := (Qa GD).more Qay (Qdu _ _ _ _) (by kernel_rfl : Try.prog.underlying 76 = some (.slice 128)) hi hz hsz hby rfl (by decide) (by decide) (cx := [c0, c1, c2, c3, c4, c5, c6, c7, c8, c9, c10, c11, c12, c13, c14, c15]) rfl (Qhr hx6) hx6 h6 k6 ha6 (fun e => ⟨(hy6 e).1, (hy6 e).2⟩) (by have := Qa HNL; omega) 3
 obtain ⟨w7, hw7⟩ : ∃ w7, w7 = w6.alloc (.cells #[c0, c1, c2, c3, c4, c5, c6, c7, c8, c9, c10, c11, c12, c13, c14, c15] 128) := ⟨_, rfl⟩
 have b7 : Below w6.heap.size w6 w7 := by rw [hw7]; exact (Below.refl _ w6).alloc (Nat.le_refl _) _
 have bx6 := k6.keep (Qa GD).b.box (by have := (Qa GD).b.r1; have := (Qa GD).b.x1; omega)
 have HC6 := hide bx6
 have HC7 := hide ((b7.block _ (Qab bx6)).trans bx6)
 have HC8 := hide bx8
 obtain ⟨z_0, z_1, z_2, z_3, z_4, zf⟩ := cl5 bx8
 have hrun' : (Builtin.append_ #[76, 76] 76 #[.slice sa acc.length sc, .slice (some ⟨w6.heap.size, 0, none⟩) 1 1]).run Try.prog w7 = .ok (.slice ra (acc.length + 1) rc) w8 := by rw [hw7]; exact hrun
 have HW7 := hide hw7
 have hlf := Qai (Qa HI).r l.length
 have hlz := Qai g8.r l.length
 have HM := hide (Ya hlf (Ya hlz (Ya (Qa HI).r.lt (Ya g8.r.lt (Ya ha6 hy6)))))
 have HG8 := hide g8
 clear hx6 ha6 hy6 h6 k6 hi hz hsz hby hrun hw7 b7 bx6 bx8 g8 hlf hlz
 refine Qaa rfl (fun _ => Qa HC6) (fun K hK => ?_)
 go_simp
 rw [← Qa HW7]
 clear HW7
 refine hK _ _ ?_
 clear hK K
 refine Qaa rfl (fun _ => Qa HC7) (fun K hK => Qas rfl _ _ 76 rfl _ _ rfl rfl hrun' (hK _ _ ?_))
 clear hK K hrun'
 refine Qad rfl (by kernel_rfl) (fun _ _ _ => by go_simp <;> rfl) ?_
 refine Qaa rfl (fun _ => Qa HC8) (fun K hK => ?_)
 go_simp
 refine hK _ _ ?_
 clear hK K
 refine Qap (fun h => by cases h) (hPP _ _ ?_)
 clear hPP PP
 go_wp2_with fail
 go_roundw
 case rel => exact ⟨false, acc ++ [x], a6, y6, f6, ra, rc, rfl, by simpa using hr1, hr2, hide (by simpa using Qa HG8)⟩
 obtain ⟨hlf, hlz, m1, m2, ha6, hy6⟩ := Qa HM
 rw [hlf, hlz, if_pos (Qa HY)]
 split
 ·
  rename_i e
  have := hy6 e
  have := Qa HA1
  omega
 · omega
end
section
open Go.RowKit Go.Maps
theorem Nxt.le2 {l : List Tok} {a b : Nat} {ks rs : List Tok} (h : Nxt l a ks) (h2 : Nxt l b rs) (ha : a < l.length) (hl : rs.length ≤ ks.length) : a ≤ b := by
 have := h.len
 have := h2.len
 omega
theorem Nxt.lt2 {l : List Tok} {a b : Nat} {ks rs : List Tok} (h : Nxt l a ks) (h2 : Nxt l b rs) (ha : a < l.length) (hl : rs.length < ks.length) : a < b := by
 have := h.len
 have := h2.len
 omega
theorem Qpm (r : List Tok) : Fole (sgQ [46] :: r) := Qjl (by decide) (by decide)
theorem eqCl_of {am : Atm} {s : Txt} {xs : List Ex} {acc ls : List Lt} {p : Int} (h : eqA am ⟨s, xs, 0⟩ = true) (h2 : eqL eqLt acc ls = true) : eqCl ⟨am, acc, p⟩ ⟨⟨s, xs, 0⟩, ls, 0⟩ = true := by
 unfold eqCl
 simp [h, h2]
def YL (rb g cap : Nat) (l : List Tok) (d : Nat) (K : List Tok) (x : Lt) : Prop := ∀ (w : World) (a i : Nat) (r : List Tok), Rr rb g cap l w a d i 0 0 → Nxt l a (K ++ r) → Fole r →
 Calls Try.prog 93 #[.pointer (some ⟨rb, 0, none⟩)] w fun en w' => XB rb g cap l w d (fun w' v => ∃ x', ltX w w' v x' ∧ eqLt x' x = true) r i en w'
theorem Qgh {rb g cap a d i : Nat} {l : List Tok} {w : World} (h : Rr rb g cap l w a d i 0 0) {s : Txt} {K : Ex → List Tok} {xs : List Ex} (hx : ∀ x ∈ xs, YE 116 rb g cap l d Fole (K x) x ∧ ∃ t0 ks, K x = t0 :: ks ∧ isSg t0 [41] = false) (hm : xs.length ≤ 8) {KL : Lt → List Tok} {ls : List Lt} (hl : ∀ x ∈ ls, YL rb g cap l d (KL x) x ∧ 0 < (KL x).length) (hl0 : ls ≠ []) (hl16 : ls.length ≤ 16) {rest : List Tok} (hA : Nxt l a (nmR s :: sgQ [40] :: (joinQ (xs.map K) ++ sgQ [41] :: sgQ [58, 45] :: (joinQ (ls.map KL) ++ sgQ [46] :: rest)))) :
  Calls Try.prog 60 #[.pointer (some ⟨rb, 0, none⟩)] w fun en w' => XB rb g cap l w d (fun w' v => ∃ x : Cls, VCl (fun b => w.heap.size ≤ b) w' v x ∧ eqCl x ⟨⟨s, xs, 0⟩, ls, 0⟩ = true) rest i en w' := by
 have b0 : Below w.heap.size w (w.alloc (.cells #[.string ⟨#[]⟩, .slice none 0 0, .int .i64 0, .slice none 0 0, .int .i64 0] 78)) := (Below.refl _ w).alloc (Nat.le_refl _) _
 have n0 : (w.alloc (.cells #[.string ⟨#[]⟩, .slice none 0 0, .int .i64 0, .slice none 0 0, .int .i64 0] 78)).heap[w.heap.size]? = some (.cells #[.string ⟨#[]⟩, .slice none 0 0, .int .i64 0, .slice none 0 0, .int .i64 0] 78 (0, 0)) := heap_alloc_new w _
 have s0 : (w.alloc (.cells #[.string ⟨#[]⟩, .slice none 0 0, .int .i64 0, .slice none 0 0, .int .i64 0] 78)).heap.size = w.heap.size + 1 := by simp
 obtain ⟨t, ht, hz, _⟩ := hA.at
 have HA := hide hA
 have HLT := hide h.lt
 have HNW : Hid (∀ w', Below w.heap.size w w' → Calls Try.prog 17 #[.pointer (some ⟨rb, 0, none⟩)] w' fun en w2 => en = .returned (.agg #[.int .i64 t.kind, str t.text, .int .i64 t.num, .int .i64 (t.at_ : Int)]) ∧ Below w'.heap.size w' w2) := fun w' bb => Qak (h.later bb) ht
 have HH := hide h
 have HX := hide (Ya hx hm)
 have HL := hide (Ya hl hl0)
 obtain ⟨n, hn⟩ : ∃ n, ls.length = n := ⟨_, rfl⟩
 have HNL := hide hn
 rw [hn] at hl16
 have H0 := hide (Ya b0 (Ya n0 s0))
 clear h ht hz hA hx hm hl hl0 hn b0 n0 s0
 go_enter Try.func60, Try.ntmps60
 go_wp2_with fail
 refine (Qa HNW _ (Qa H0).1).mono ?_
 rintro en w1 ⟨rfl, b1⟩
 obtain ⟨b0, n0, s0⟩ := Qa H0
 have hb1 := b0.trans (b1.mono (by omega))
 have n1 := (b1.block _ (by omega)).trans n0
 have hat := Qjg ((Qa HH).later hb1) (Qa HX).1 (Qa HX).2 (Qa HA)
 have hrl := Qab (Qa HH).box
 have hgl := (Qa HH).row.lt
 have hs1 := b1.size
 have K1 := hide (Ya (Kp.of_below (rb := rb) hb1) (Ya n1 (show rb < w.heap.size ∧ g < w.heap.size ∧ w.heap.size < w1.heap.size by omega)))
 clear b1 b0 n0 s0 hb1 n1 hrl hgl hs1 HNW H0
 go_wp2_with fail
 rename_i hK
 refine hK _ _ ?_
 clear hK
 go_wp2_with fail
 refine hat.mono ?_
 clear hat
 rintro en w2 ⟨_, a2, rfl, ⟨am, ⟨aa, an, ac, rfl, hks⟩, heq⟩, h2, k2, n2x⟩
 have ha2 : a < a2 := Nxt.lt2 (Qa HA) n2x (Qa HLT) (by simp; omega)
 have HQ := hide heq
 obtain ⟨k1, n1, g1, g2, g3⟩ := Qa K1
 have hs2 := k2.size
 have n2 := k2.keep n1 (by omega)
 obtain ⟨xb, hxb⟩ : ∃ xb, w2.heap.size = xb := ⟨_, rfl⟩
 obtain ⟨w3, hw3⟩ : ∃ w3, w3 = w2.alloc (.cells #[str am.rel, .slice aa an ac, .int .i64 am.at_, .slice none 0 0, .int .i64 (t.at_ : Int)] 78) := ⟨_, rfl⟩
 have b3 : Below w2.heap.size w2 w3 := by rw [hw3]; exact (Below.refl _ w2).alloc (Nat.le_refl _) _
 have n3 : w3.heap[xb]? = some (.cells #[str am.rel, .slice aa an ac, .int .i64 am.at_, .slice none 0 0, .int .i64 (t.at_ : Int)] 78 (0, 0)) := by rw [hw3, ← hxb]; exact heap_alloc_new w2 _
 have q3 := (b3.block _ (by omega)).trans n2
 have hE3 : clE w xb (.slice aa an ac) am.args w3 := LsAt.same Qae (hks.mono Qae (fun b hl hb => (⟨by have hb' : w1.heap.size ≤ b := hb; omega, by omega⟩ : w.heap.size < b ∧ b < xb))) b3.size (fun q _ hl => b3.block q hl)
 have G3 : Hid (Gx PLt 16 128 rb g cap l w d i a 0 xb 78 #[.string ⟨#[]⟩, .slice none 0 0, .int .i64 0, .slice none 0 0, .int .i64 0] (clE w xb (.slice aa an ac) am.args) w3 #[str am.rel, .slice aa an ac, .int .i64 am.at_, .slice none 0 0, .int .i64 (t.at_ : Int)] a2 0 0 (.slice none 0 0) []) := ⟨h2.later b3, ⟨(k1.trans k2).trans (Kp.of_below b3), n3, q3, g1, g2, by omega⟩, hE3, Qo.nil _, Nat.le_of_lt ha2, fun _ => ⟨rfl, ha2⟩, Nat.zero_le _, fun _ => Nat.zero_le _⟩
 have hmy := Qcu (Qa G3).r n2x
 have HN2 := hide n2x
 have HW3 := hide (Ya hw3 hxb)
 clear k1 n1 g1 g2 g3 hs2 n2 hxb hw3 b3 n3 q3 hE3 hks heq ha2 n2x h2 k2 K1
 go_wp2_with fail
 rw [← (Qa HW3).1, (Qa HW3).2]
 clear HW3
 refine hmy.mono ?_
 clear hmy
 rintro en w4 ⟨_, a4, rfl, rfl, h4, k4, n4⟩
 have e4 : a2 ≤ a4 := Nat.le_of_lt (Nxt.lt2 (Qa HN2) n4 (Qa G3).r.lt (by simp))
 have G4 := hide ((Qa G3).call Qay (Qdu _ _ _ _) k4 h4 e4 (fun e => e))
 have HN4 := hide n4
 clear h4 k4 n4 e4 G3 HN2
 go_wp2_with fail
 go_loopw [4] (fun fb wr => ∃ (fst : Bool) (acc : List Lt) (a1 : Nat) (sa : Option Addr) (sc : Nat), fb = .bool fst ∧ acc.length ≤ sc ∧ sc ≤ maxLen ∧ acc.length ≤ n ∧ Hid (Gx PLt 16 128 rb g cap l w d i a 0 xb 78 #[.string ⟨#[]⟩, .slice none 0 0, .int .i64 0, .slice none 0 0, .int .i64 0] (clE w xb (.slice aa an ac) am.args) wr #[str am.rel, .slice aa an ac, .int .i64 am.at_, .slice sa acc.length sc, .int .i64 (t.at_ : Int)] a1 0 0 (.slice sa acc.length sc) acc) ∧ Hid (Nxt l a1 (leftQ KL ls acc.length ++ sgQ [46] :: rest) ∧ fst = decide (acc.length = 0) ∧ eqL eqLt acc (ls.take acc.length) = true)) (fun _ wr => leftR rb l.length wr)
 case atStart => exact ⟨true, [], a4, none, 0, rfl, Nat.le_refl _, by unfold maxLen; omega, Nat.zero_le _, G4, hide ⟨Qa HN4, rfl, rfl⟩⟩
 obtain ⟨fst, acc, a1, sa, sc, rfl, hc1, hc2, hc3, HI, HJ⟩ := hrel
 unfold maxLen at hc2
 clear G4 HN4
 go_upto_region 4 with fail
 go_cut [21] from 13 to 34 (fun c wc => ∃ (aX : Nat), c = .bool (decide (acc.length < n)) ∧ Hid (Gx PLt 16 128 rb g cap l w d i a 0 xb 78 #[.string ⟨#[]⟩, .slice none 0 0, .int .i64 0, .slice none 0 0, .int .i64 0] (clE w xb (.slice aa an ac) am.args) wc #[str am.rel, .slice aa an ac, .int .i64 am.at_, .slice sa acc.length sc, .int .i64 (t.at_ : Int)] aX 0 0 (.slice sa acc.length sc) acc) ∧ Hid (a1 ≤ aX ∧ (acc.length < n → ∃ x, ls[acc.length]? = some x ∧ Nxt l aX (KL x ++ (leftQ KL ls (acc.length + 1) ++ sgQ [46] :: rest))) ∧ (¬ acc.length < n → Nxt l aX (sgQ [46] :: rest))))
 case first =>
  have hwl := Qao (Qa HI).r
  rw [decide_eq_true rfl] at hwl
  cases fst
  ·
   have h0 : acc.length ≠ 0 := by simpa using (Qa HJ).2.1.symm
   by_cases hlt : acc.length < n
   ·
    obtain ⟨x, hxj⟩ : ∃ x, ls[acc.length]? = some x := ⟨ls[acc.length]'(by rw [Qa HNL]; exact hlt), List.getElem?_eq_getElem _⟩
    have hq := (Qa HJ).1
    rw [Qcy KL h0 hxj] at hq
    simp only [List.cons_append, List.append_assoc] at hq
    have hmy := Qcu (Qa HI).r hq
    have HXJ := hide (Ya hxj hq)
    clear hq hxj h0
    go_wp2_with fail
    refine hwl.mono ?_
    clear hwl
    rintro en wq ⟨rfl, rfl⟩
    go_wp2_with fail
    refine hmy.mono ?_
    clear hmy
    rintro en WX ⟨_, aX, rfl, rfl, h7, k7, hq⟩
    have e7 : a1 ≤ aX := Nat.le_of_lt (Nxt.lt2 (Qa HXJ).2 hq (Qa HI).r.lt (by simp))
    have G7 := hide ((Qa HI).call Qay (Qdu _ _ _ _) k7 h7 e7 (fun e => e))
    have X2 := hide (Ya e7 hq)
    clear h7 k7 hq e7
    go_wp2_with fail
    go_meet
    exact ⟨aX, by rw [decide_eq_true hlt], G7, hide ⟨(Qa X2).1, fun _ => ⟨x, (Qa HXJ).1, (Qa X2).2⟩, fun e => absurd hlt e⟩⟩
   have hq := (Qa HJ).1
   rw [show leftQ KL ls acc.length = [] by rw [show acc.length = n by omega, ← Qa HNL, Qcn], List.nil_append] at hq
   have hmy := Qch (s := [44]) (Qa HI).r hq (by decide)
   have HXJ := hide hq
   clear hq h0
   go_wp2_with fail
   refine hwl.mono ?_
   clear hwl
   rintro en wq ⟨rfl, rfl⟩
   go_wp2_with fail
   refine hmy.mono ?_
   clear hmy
   rintro en WX ⟨_, aX, rfl, rfl, h7, k7, hq⟩
   have e7 : a1 ≤ aX := Nxt.le2 (Qa HXJ) hq (Qa HI).r.lt (Nat.le_refl _)
   have G7 := hide ((Qa HI).call Qay (Qdu _ _ _ _) k7 h7 e7 (fun e => e))
   have X2 := hide (Ya e7 hq)
   clear h7 k7 hq e7
   go_wp2_with fail
   go_meet
   exact ⟨aX, by rw [decide_eq_false hlt], G7, hide ⟨(Qa X2).1, fun e => absurd e hlt, fun _ => (Qa X2).2⟩⟩
  have h0 : acc.length = 0 := by simpa using (Qa HJ).2.1.symm
  have hlt : acc.length < n := by
   rw [h0, ← Qa HNL]
   exact List.length_pos_iff.2 (Qa HL).2
  obtain ⟨x, hxj⟩ : ∃ x, ls[acc.length]? = some x := ⟨ls[acc.length]'(by rw [Qa HNL]; exact hlt), List.getElem?_eq_getElem _⟩
  have hq := (Qa HJ).1
  rw [show leftQ KL ls acc.length = KL x ++ leftQ KL ls (acc.length + 1) by rw [h0] at hxj ⊢; exact Qes KL hxj, List.append_assoc] at hq
  have HQ2 := hide (Ya hxj hq)
  clear hq hxj h0
  go_wp2_with fail
  refine hwl.mono ?_
  clear hwl
  rintro en wq ⟨rfl, rfl⟩
  go_wp2_with fail
  go_meet
  exact ⟨a1, by rw [decide_eq_true hlt], HI, hide ⟨Nat.le_refl _, fun _ => ⟨x, Qa HQ2⟩, fun e => absurd hlt e⟩⟩
 obtain ⟨aX, rfl, G5, H5⟩ := hcut
 obtain ⟨wX, hwX⟩ : ∃ wX, wX = wc := ⟨_, rfl⟩
 subst hwX
 by_cases hlt : acc.length < n
 ·
  rw [decide_eq_true hlt]
  obtain ⟨x, hxj, hq⟩ := (Qa H5).2.1 hlt
  have HA1 := hide (Qa H5).1
  have htk : ls.take (acc.length + 1) = ls.take acc.length ++ [x] := by rw [List.take_add_one, hxj]; rfl
  have hfol : Fole (leftQ KL ls (acc.length + 1) ++ sgQ [46] :: rest) := by
   by_cases h1 : acc.length + 1 < n
   ·
    rw [Qcy KL (by omega) (List.getElem?_eq_getElem (show acc.length + 1 < ls.length by rw [Qa HNL]; exact h1))]
    exact Qgs _
   rw [show leftQ KL ls (acc.length + 1) = [] by rw [show acc.length + 1 = n by omega, ← Qa HNL, Qcn]]
   exact Qpm _
  obtain ⟨x_0, x_1, x_2, x_3, x_4, xf⟩ := cl5 (Qa G5).b.box
  have g16 : ¬ ((16 : Int) ≤ (acc.length : Int)) := by omega
  have GD := hide ((Qa G5).call Qay (Qdu _ _ _ _) (W' := wX.drew) (Kp.of_below (Below.refl _ wX).drew) ((Qa G5).r.later (Below.refl _ wX).drew) (Nat.le_refl _) (fun e => e))
  have hcl := ((Qa HL).1 x (List.mem_of_getElem? hxj)).1 _ _ _ _ (Qa GD).r hq hfol
  have hpos := ((Qa HL).1 x (List.mem_of_getElem? hxj)).2
  have HT2 := hide (Ya htk (Ya hq hpos))
  clear hxj hq htk hfol hpos H5
  go_wp2_with fail
  clear x_0 x_1 x_2 x_3 x_4 xf
  refine Qam (m := 7) (ml := [(0, 1), (1, 2), (2, 1), (3, 0), (4, 0), (5, 0), (6, 1), (7, 0)]) (fun ff w' => ff = false → w'.heap[xb]? = some (.cells #[str am.rel, .slice aa an ac, .int .i64 am.at_, .slice sa acc.length sc, .int .i64 (t.at_ : Int)] 78 (0, 0))) mixedO (by kernel_rfl) rfl (by rfl) (by kernel_rfl) (fun PP hPP => ?_)
  refine Qad rfl (by kernel_rfl) (fun _ _ _ => by go_simp <;> rfl) ?_
  refine Qaq (v := ?_) rfl (by kernel_rfl) (fun w' hw => ?_) ?_
  rotate_left
  · (obtain ⟨x_0, x_1, x_2, x_3, x_4, xf⟩ := cl5 (hw rfl); go_simp <;> rfl)
  refine Qad rfl (by kernel_rfl) (fun _ _ _ => by go_simp <;> rfl) ?_
  refine Qaa rfl (fun _ => (Qa GD).b.box) (fun K hK => ?_)
  go_simp
  refine hcl.mono ?_
  clear hcl
  rintro en w6 ⟨_, a6, rfl, ⟨x6, ⟨c0, c1, c2, c3, c4, c5, c6, c7, c8, c9, c10, c11, c12, c13, c14, c15, rfl, hx6⟩, he6⟩, h6, k6, n6⟩
  have hy6 : aX < a6 := Nxt.lt2 (Qa HT2).2.1 n6 (Qa G5).r.lt (by have := (Qa HT2).2.2; simp; omega)
  show K _ _
  refine hK _ _ ?_
  clear hK K
  obtain ⟨i0, hi, hz, hsz, hby⟩ := infoL
  obtain ⟨ra, rc, w8, hrun, hr1, hr2, bx8, g8⟩ := (Qa GD).more Qay (Qdu _ _ _ _) (by kernel_rfl : Try.prog.underlying 76 = some (.slice 128)) hi hz hsz hby rfl (by decide) (by decide) (cx := [c0, c1, c2, c3, c4, c5, c6, c7, c8, c9, c10, c11, c12, c13, c14, c15]) rfl (Qhr hx6) hx6 h6 k6 (Nat.le_of_lt hy6) (fun _ => ⟨rfl, hy6⟩) ((Qa GD).n0 rfl) 3
  obtain ⟨w7, hw7⟩ : ∃ w7, w7 = w6.alloc (.cells #[c0, c1, c2, c3, c4, c5, c6, c7, c8, c9, c10, c11, c12, c13, c14, c15] 128) := ⟨_, rfl⟩
  have b7 : Below w6.heap.size w6 w7 := by rw [hw7]; exact (Below.refl _ w6).alloc (Nat.le_refl _) _
  have bx6 := k6.keep (Qa GD).b.box (by have := (Qa GD).b.r1; have := (Qa GD).b.x1; omega)
  have HC6 := hide bx6
  have HC7 := hide ((b7.block _ (Qab bx6)).trans bx6)
  have HC8 := hide bx8
  obtain ⟨z_0, z_1, z_2, z_3, z_4, zf⟩ := cl5 bx8
  have hrun' : (Builtin.append_ #[76, 76] 76 #[.slice sa acc.length sc, .slice (some ⟨w6.heap.size, 0, none⟩) 1 1]).run Try.prog w7 = .ok (.slice ra (acc.length + 1) rc) w8 := by rw [hw7]; exact hrun
  have HW7 := hide hw7
  have hlf := Qai (Qa HI).r l.length
  have hlz := Qai g8.r l.length
  have HM := hide (Ya hlf (Ya hlz (Ya (Qa HI).r.lt (Ya g8.r.lt hy6))))
  have HJ6 := hide (Ya n6 (show eqL eqLt (acc ++ [x6]) (ls.take (acc.length + 1)) = true by rw [(Qa HT2).1]; exact Qcr eqLt _ _ _ _ (Qa HJ).2.2 he6))
  have HG8 := hide g8
  clear hx6 hy6 h6 k6 he6 n6 hi hz hsz hby hrun hw7 b7 bx6 bx8 g8 hlf hlz
  refine Qaa rfl (fun _ => Qa HC6) (fun K hK => ?_)
  go_simp
  rw [← Qa HW7]
  clear HW7
  refine hK _ _ ?_
  clear hK K
  refine Qaa rfl (fun _ => Qa HC7) (fun K hK => Qas rfl _ _ 76 rfl _ _ rfl rfl hrun' (hK _ _ ?_))
  clear hK K hrun'
  refine Qad rfl (by kernel_rfl) (fun _ _ _ => by go_simp <;> rfl) ?_
  refine Qaa rfl (fun _ => Qa HC8) (fun K hK => ?_)
  go_simp
  refine hK _ _ ?_
  clear hK K
  refine Qap (fun h => by cases h) (hPP _ _ ?_)
  clear hPP PP
  go_wp2_with fail
  go_roundw
  case rel =>
   refine ⟨false, acc ++ [x6], a6, ra, rc, rfl, by simpa using hr1, hr2, by simp; omega, hide (by simpa using Qa HG8), hide ?_⟩
   rw [show (acc ++ [x6]).length = acc.length + 1 by simp]
   exact ⟨(Qa HJ6).1, by simp, (Qa HJ6).2⟩
  obtain ⟨hlf, hlz, m1, m2, hy6⟩ := Qa HM
  rw [hlf, hlz, if_pos rfl, if_pos rfl]
  have := Qa HA1
  omega
 rw [decide_eq_false hlt]
 have hq := (Qa H5).2.2 hlt
 have ej : acc.length = n := by omega
 have HE := hide (show eqL eqLt acc ls = true by have q := (Qa HJ).2.2; rw [ej, ← Qa HNL, List.take_length] at q; exact q)
 have hms := Qcp (Qa G5).r hq
 have HQ9 := hide hq
 clear hq ej H5
 go_wp2_with fail
 refine hms.mono ?_
 clear hms
 rintro en w9 ⟨_, a9, rfl, rfl, h9, k9, n9⟩
 have ha9 : aX ≤ a9 := Nat.le_of_lt (Nxt.lt2 (Qa HQ9) n9 (Qa G5).r.lt (by simp))
 have g9 := (Qa G5).call Qay (Qdu _ _ _ _) k9 h9 ha9 (fun e => e)
 obtain ⟨x_0, x_1, x_2, x_3, x_4, xf⟩ := cl5 g9.b.box
 obtain ⟨y_0, y_1, y_2, y_3, y_4, yf⟩ := cl5 g9.b.res
 have HF : Hid (∀ q0 q1 q2 q3 q4, XB rb g cap l w d (fun w' v => ∃ x : Cls, VCl (fun b => w.heap.size ≤ b) w' v x ∧ eqCl x ⟨⟨s, xs, 0⟩, ls, 0⟩ = true) rest i (.returned (.agg #[str am.rel, .slice aa an ac, .int .i64 am.at_, .slice sa acc.length sc, .int .i64 (t.at_ : Int)])) (((((w9.setCell ⟨w.heap.size, 0, none⟩ q0).setCell ⟨w.heap.size, 1, none⟩ q1).setCell ⟨w.heap.size, 2, none⟩ q2).setCell ⟨w.heap.size, 3, none⟩ q3).setCell ⟨w.heap.size, 4, none⟩ q4)) := fun q0 q1 q2 q3 q4 => by
  obtain ⟨R9, K9, E9, Q9⟩ := g9.fin Qay (Qdu _ _ _ _) (W' := (((((w9.setCell ⟨w.heap.size, 0, none⟩ q0).setCell ⟨w.heap.size, 1, none⟩ q1).setCell ⟨w.heap.size, 2, none⟩ q2).setCell ⟨w.heap.size, 3, none⟩ q3).setCell ⟨w.heap.size, 4, none⟩ q4)) (by simp [World.setCell]) ⟨rfl, rfl, rfl⟩ (fun q hq => by rw [hpS hq, hpS hq, hpS hq, hpS hq, hpS hq])
  have hx1 := g9.b.x1
  exact ⟨_, _, rfl, ⟨⟨am, acc, t.at_⟩, ⟨aa, an, ac, _, _, _, rfl, E9.mono Qae (fun b _ hb => by omega), (Q9.ls Qay).mono Qay (fun b _ hb => by have hb' : xb + 1 ≤ b := hb; omega)⟩, eqCl_of (Qa HQ) (Qa HE)⟩, R9, K9, n9⟩
 clear ha9 h9 k9 n9 g9
 go_wp2_with fail
 refine bodyPost_ret (v := .agg #[str am.rel, .slice aa an ac, .int .i64 am.at_, .slice sa acc.length sc, .int .i64 (t.at_ : Int)]) (by simp [results, Try.results60, go_sem, y_0, y_1, y_2, y_3, y_4]) rfl ?_
 exact Qa HF _ _ _ _ _
end
section
open Go.RowKit Go.Maps
def rdOk (rb : Nat) (w : World) : Prop := w.cell? ⟨rb, 4, none⟩ = some (.int .i64 0)
def NeT (l : List Tok) : Prop := ∀ t ∈ l, t.kind = 1 → t.text ≠ []
def WfT (p : Pg) : Prop := ∀ x, x ∈ p.types → (x.sub = [] ↔ x.ctors ≠ [])
theorem Qqd {rb : Nat} {w : World} {v0 v1 v2 v3 v5 : Value} {y : Int} (h : w.heap[rb]? = some (.cells #[v0, v1, v2, v3, .int .i64 y, v5] 56 (0, 0))) : rdOk rb w ↔ y = 0 := by
 have e : w.cell? ⟨rb, 4, none⟩ = some (.int .i64 y) := by rw [Qaf h]; rfl
 unfold rdOk
 rw [e]
 constructor
 ·
  intro q
  simpa using q
 intro q
 rw [q]
theorem Rr.ok {rb g cap a d i : Nat} {l : List Tok} {w : World} {y f : Int} (h : Rr rb g cap l w a d i y f) : rdOk rb w ↔ y = 0 := Qqd h.box
theorem Qff : WfT .none := fun x hx => by cases hx
theorem Qek {p q : Pg} (h : WfT p) (e : q.types = p.types) : WfT q := fun x hx => h x (by rw [← e]; exact hx)
theorem wfT_add {p : Pg} {x : Typ} {b : List Dcl} {c : List Cp} {d : List Ini} {e : List Cls} (h : WfT p) (hx : x.sub = [] ↔ x.ctors ≠ []) : WfT (.mk (p.types ++ [x]) b c d e) := fun t ht => by
 have ht' : t ∈ p.types ++ [x] := ht
 rcases List.mem_append.1 ht' with h1 | h1
 · exact h t h1
 · rw [List.mem_singleton.1 h1]; exact hx
end
end Go.Proofs.Ytfmbpaoapjmdnaa
