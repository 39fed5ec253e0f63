/- The document's reader: comp, where prog is told. The document's reader by the tokens that are next: comp (without bases), where its body is told. -/
import Derived.Test.YtfmbpaoapjmdnaaQb15
import Derived.Test.YtfmbpaoapjmdnaaQb31
import Derived.Test.YtfmbpaoapjmdnaaQb19
import Derived.Test.YtfmbpaoapjmdnaaQb05
import Derived.Test.YtfmbpaoapjmdnaaQb33
set_option maxRecDepth 100000
set_option maxHeartbeats 32000000
namespace Go.Proofs.Ytfmbpaoapjmdnaa
section
open Go.RowKit Go.Maps
def pgV (rb : Nat) (l : List Tok) (w : World) (w' : World) (v : Value) : Prop := ∃ (x : Pg) (p0 : Option Addr) (m0 o0 : Nat) (p1 : Option Addr) (m1 o1 : Nat) (p2 : Option Addr) (m2 o2 : Nat) (p3 : Option Addr) (m3 o3 : Nat) (p4 : Option Addr) (m4 o4 : Nat), v = .agg #[.slice p0 m0 o0, .slice p1 m1 o1, .slice p2 m2 o2, .slice p3 m3 o3, .slice p4 m4 o4] ∧ PgS (fun b => w.heap.size ≤ b) w' [.slice p0 m0 o0, .slice p1 m1 o1, .slice p2 m2 o2, .slice p3 m3 o3, .slice p4 m4 o4] x ∧ x.types.length ≤ 97 ∧ (rdOk rb w' → NeT l → WfT x)
def coV (w : World) (w' : World) (v : Value) : Prop := ∃ x : Cp, VCo (fun b => w.heap.size ≤ b) w' v x
def PgY (a i : Nat) (y : Int) (a' i' : Nat) (y' : Int) : Prop := a ≤ a' ∧ i ≤ i' ∧ i' ≤ 97 ∧ (y' = 0 → y = 0 ∧ i' ≤ 96)
def PgC (rb g cap : Nat) (l : List Tok) (d : Nat) : Prop := ∀ (w : World) (a i : Nat) (y f : Int), Rr rb g cap l w a d i y f → i ≤ 97 → (y = 0 → i ≤ 96 ∧ d ≤ 32) → Calls Try.prog 16 #[.pointer (some ⟨rb, 0, none⟩)] w fun en w' => RA rb g cap l w d (pgV rb l w) (PgY a i y) en w'
theorem co_ld {w : World} {b : Nat} {v0 v1 v2 v3 v4 v5 v6 v7 : Value} (h : w.heap[b]? = some (.cells #[v0, v1, v2, v3, v4, v5, v6, v7] 40 (0, 0))) : (coLoad (.pointer (some ⟨b, 0, none⟩))).run Try.prog w = .ok (.agg #[v0, v1, v2, v3, v4, v5, v6, v7]) w :=
 run_loadAt_mid w b 0 40 [v0, v1, v2, v3, v4, v5, v6, v7] _ (fun q v hq => by rw [Qaf h, Nat.zero_add]; simpa using hq) Try.underlying40 rfl Qoj
theorem Qqq {w : World} {b : Nat} {old new : Array Value} (hb : w.heap[b]? = some (.cells old 40 (0, 0))) (h0 : old.size = 8) (hn : new.size = 8) (h1 : new.all (·.oneCell') = true) : (coStore (.pointer (some ⟨b, 0, none⟩)) (.agg new)).run Try.prog w = .ok () (w.setRow b new) := by
 unfold coStore
 simp only [Instr.storeAt, Instr.sureAddr, Sem.run_bind, Sem.run_pure, Result.andThen_ok]
 exact run_storeVar_row w b 40 40 old new hb (by rw [hn]; kernel_rfl) (by rw [h0, hn]) h1
attribute [local go_sem ↓] Qda Qdh
theorem Qpx {rb g cap a d i : Nat} {l : List Tok} {w : World} {y f : Int} (h : Rr rb g cap l w a d i y f) (hi : i ≤ 97) (hy0 : y = 0 → i ≤ 96 ∧ d ≤ 32) (hP : PgC rb g cap l d) (at0 : Int) :
  Calls Try.prog 56 #[.pointer (some ⟨rb, 0, none⟩), .int .i64 at0] w fun en w' => RA rb g cap l w d (coV w) (PgY a i y) en w' := by
 have b0 : Below w.heap.size w (w.alloc (.cells #[.string ⟨#[]⟩, .slice none 0 0, .slice none 0 0, .slice none 0 0, .slice none 0 0, .slice none 0 0, .slice none 0 0, .int .i64 0] 40)) := (Below.refl _ w).alloc (Nat.le_refl _) _
 have n0 : (w.alloc (.cells #[.string ⟨#[]⟩, .slice none 0 0, .slice none 0 0, .slice none 0 0, .slice none 0 0, .slice none 0 0, .slice none 0 0, .int .i64 0] 40)).heap[w.heap.size]? = some (.cells #[.string ⟨#[]⟩, .slice none 0 0, .slice none 0 0, .slice none 0 0, .slice none 0 0, .slice none 0 0, .slice none 0 0, .int .i64 0] 40 (0, 0)) := heap_alloc_new w _
 have s0 : (w.alloc (.cells #[.string ⟨#[]⟩, .slice none 0 0, .slice none 0 0, .slice none 0 0, .slice none 0 0, .slice none 0 0, .slice none 0 0, .int .i64 0] 40)).heap.size = w.heap.size + 1 := by simp
 have hwd := Qbz (h.later b0)
 have HH := hide (Ya (Qab h.box) h.row.lt)
 have H0 := hide (Ya b0 (Ya n0 s0))
 have HI0 := hide (Ya hi hy0)
 have HP := hide hP
 clear h b0 n0 s0 hi hy0 hP
 go_enter Try.func56, Try.ntmps56
 go_wp2_with fail
 refine hwd.mono ?_
 clear hwd
 rintro en w2 ⟨_, a2, i2, y2, f2, rfl, ⟨x2, rfl⟩, ⟨ei, ha2, hy2⟩, h2, k2⟩
 rw [ei] at h2
 clear ei
 obtain ⟨b0, n0, s0⟩ := Qa H0
 obtain ⟨g1, g2⟩ := Qa HH
 have hs2 := k2.size
 have n2 := k2.keep n0 (by omega)
 obtain ⟨w3, hw3⟩ : ∃ w3, w3 = w2.alloc (.cells #[str x2, .slice none 0 0, .slice none 0 0, .slice none 0 0, .slice none 0 0, .slice none 0 0, .slice none 0 0, .int .i64 at0] 40) := ⟨_, rfl⟩
 have S3 : (coStore (.pointer (some ⟨w2.heap.size, 0, none⟩)) (.agg #[str x2, .slice none 0 0, .slice none 0 0, .slice none 0 0, .slice none 0 0, .slice none 0 0, .slice none 0 0, .int .i64 at0])).run Try.prog (w2.alloc (.cells #[.string ⟨#[]⟩, .slice none 0 0, .slice none 0 0, .slice none 0 0, .slice none 0 0, .slice none 0 0, .slice none 0 0, .int .i64 0] 40)) = .ok () w3 := by rw [hw3]; exact run_storeAt_new w2 40 _ _ Qoj rfl (by simp [Value.oneCell', str])
 obtain ⟨xb, hxb⟩ : ∃ xb, w2.heap.size = xb := ⟨_, rfl⟩
 have b3 : Below w2.heap.size w2 w3 := by rw [hw3]; exact (Below.refl _ w2).alloc (Nat.le_refl _) _
 have n3 : w3.heap[xb]? = some (.cells #[str x2, .slice none 0 0, .slice none 0 0, .slice none 0 0, .slice none 0 0, .slice none 0 0, .slice none 0 0, .int .i64 at0] 40 (0, 0)) := by rw [hw3, ← hxb]; exact heap_alloc_new w2 _
 have q3 := (b3.block _ (by omega)).trans n2
 have G3 : Hid (Gx PSt 1 9 rb g cap l w d i a y xb 40 #[.string ⟨#[]⟩, .slice none 0 0, .slice none 0 0, .slice none 0 0, .slice none 0 0, .slice none 0 0, .slice none 0 0, .int .i64 0] (fun _ => True) w3 #[str x2, .slice none 0 0, .slice none 0 0, .slice none 0 0, .slice none 0 0, .slice none 0 0, .slice none 0 0, .int .i64 at0] a2 y2 f2 (.slice none 0 0) []) := ⟨h2.later b3, ⟨((Kp.of_below b0).trans k2).trans (Kp.of_below b3), n3, q3, g1, g2, by omega⟩, trivial, Qo.nil _, ha2, hy2, Nat.zero_le _, fun _ => Nat.zero_le _⟩
 have hmy := Qb (Qa G3).r ⟨#[58]⟩
 have HW3 := hide hxb
 clear b0 n0 s0 g1 g2 hs2 n2 hxb hw3 b3 n3 q3 ha2 hy2 h2 k2 H0
 go_wp2_with fail
 rw [Qa HW3]
 clear HW3 S3
 refine hmy.mono ?_
 clear hmy
 rintro en w4 ⟨b, a4, f4, rfl, hb1, hb0, h4, k4⟩
 have G4 := hide ((Qa G3).call Qbm (EK.none _ _) k4 h4 (by
  cases b with
  | true => have := (hb1 rfl).2; omega
  | false => have := hb0 rfl; omega) (fun e => e))
 clear hb1 hb0 h4 k4 G3
 cases b
 ·
  have hms := Qbd (Qa G4).r ⟨#[123]⟩
  go_wp2_with fail
  refine hms.mono ?_
  clear hms
  rintro en w5 ⟨_, a5, i5, y5, f5, rfl, rfl, ⟨ei, ha5, hy5⟩, h5, k5⟩
  rw [ei] at h5
  clear ei
  have G5 := hide ((Qa G4).call Qbm (EK.none _ _) k5 h5 ha5 (fun e => (hy5 e).1))
  clear ha5 hy5 h5 k5
  have hpg := Qa HP w5 _ _ _ _ (Qa G5).r (Qa HI0).1 (fun e => (Qa HI0).2 ((Qa G5).y0 e).1)
  go_wp2_with fail
  refine hpg.mono ?_
  clear hpg
  rintro en w6 ⟨_, a6, i6, y6, f6, rfl, ⟨pg, p0, m0, o0, p1, m1, o1, p2, m2, o2, p3, m3, o3, p4, m4, o4, rfl, hpg, -, -⟩, ⟨ha6, hi6, hi7, hy6⟩, h6, k6⟩
  have g5 := Qa G5
  have B6 := g5.b.call k6
  have hx1 := g5.b.x1
  have hr1 := g5.b.r1
  have hg1 := g5.b.g1
  have hxl := Qab g5.b.box
  have hs6 := k6.size
  obtain ⟨w7, hw7⟩ : ∃ w7, w7 = (((((w6.setCell ⟨xb, 2, none⟩ (.slice p0 m0 o0)).setCell ⟨xb, 3, none⟩ (.slice p1 m1 o1)).setCell ⟨xb, 4, none⟩ (.slice p2 m2 o2)).setCell ⟨xb, 5, none⟩ (.slice p3 m3 o3)).setCell ⟨xb, 6, none⟩ (.slice p4 m4 o4)) := ⟨_, rfl⟩
  have o7 : ∀ q, q ≠ xb → w7.heap[q]? = w6.heap[q]? := fun q hq => by rw [hw7, hpS hq, hpS hq, hpS hq, hpS hq, hpS hq]
  have s7 : w7.heap.size = w6.heap.size := by rw [hw7]; simp
  have B7 : Bx rb g w xb 40 #[.string ⟨#[]⟩, .slice none 0 0, .slice none 0 0, .slice none 0 0, .slice none 0 0, .slice none 0 0, .slice none 0 0, .int .i64 0] #[str x2, .slice none 0 0, .slice p0 m0 o0, .slice p1 m1 o1, .slice p2 m2 o2, .slice p3 m3 o3, .slice p4 m4 o4, .int .i64 at0] w7 := by rw [hw7]; exact ((((B6.set 2 _).set 3 _).set 4 _).set 5 _).set 6 _
  have h7 := h6.move (w' := w7) (by omega) (o7 rb (by omega)) (o7 g (by omega))
  have Q7 := g5.q.move Qbm (w' := w7) (by omega) (fun b hb hl => (o7 b (by omega)).trans (k6.block b hl (by omega)))
  have P7 : PgS (fun b => w5.heap.size ≤ b) w7 [.slice p0 m0 o0, .slice p1 m1 o1, .slice p2 m2 o2, .slice p3 m3 o3, .slice p4 m4 o4] pg := Qar.same _ _ w7 _ _ hpg (by omega) (fun b hb _ => o7 b (by have hb' : w5.heap.size ≤ b := hb; omega))
  have hms := Qbd h7 ⟨#[125]⟩
  obtain ⟨x_0, x_1, x_2, x_3, x_4, x_5, x_6, x_7, xf⟩ := cl8 B6.box
  have H7 := hide (Ya B7 (Ya Q7 (Ya P7 (Ya (show a ≤ a6 by have := g5.le; omega) (Ya (show i ≤ i6 ∧ i6 ≤ 97 from ⟨hi6, hi7⟩) (Ya (show y6 = 0 → y = 0 ∧ i6 ≤ 96 from fun e => ⟨(g5.y0 (hy6 e).1).1, (hy6 e).2⟩) hxl))))))
  have HW7 := hide hw7
  clear g5 B6 hx1 hr1 hg1 hxl hs6 hw7 o7 s7 B7 h7 Q7 P7 hpg ha6 hi6 hi7 hy6 h6 k6 G5
  go_wp2_with fail
  rw [← Qa HW7]
  clear HW7 x_0 x_1 x_2 x_3 x_4 x_5 x_6 x_7 xf
  refine hms.mono ?_
  clear hms
  rintro en w8 ⟨_, a8, i8, y8, f8, rfl, rfl, ⟨ei, ha8, hy8⟩, h8, k8⟩
  rw [ei] at h8
  clear ei
  obtain ⟨B7, Q7, P7, ea, ei, ey, hxl⟩ := Qa H7
  have B8 := B7.call k8
  have hx1 := B8.x1
  have hr1 := B8.r1
  have hg1 := B8.g1
  have hx7 := Qab B7.box
  have Q8 := Q7.move Qbm k8.size (fun b hb hl => k8.block b hl (by omega))
  have P8 := Qar.same _ _ w8 _ _ P7 k8.size (fun b hb hl => k8.block b hl (by have hb' : w5.heap.size ≤ b := hb; omega))
  have L8 := co_ld B8.box
  have S8 := Qqq (new := #[str x2, .slice none 0 0, .slice p0 m0 o0, .slice p1 m1 o1, .slice p2 m2 o2, .slice p3 m3 o3, .slice p4 m4 o4, .int .i64 at0]) B8.res rfl rfl (by simp [Value.oneCell', str])
  obtain ⟨w9, hw9⟩ : ∃ w9, w9 = w8.setRow w.heap.size #[str x2, .slice none 0 0, .slice p0 m0 o0, .slice p1 m1 o1, .slice p2 m2 o2, .slice p3 m3 o3, .slice p4 m4 o4, .int .i64 at0] := ⟨_, rfl⟩
  rw [← hw9] at S8
  have o9 : ∀ q, q ≠ w.heap.size → w9.heap[q]? = w8.heap[q]? := fun q hq => by rw [hw9]; exact setRow_other _ _ _ _ hq
  have s9 : w9.heap.size = w8.heap.size := by rw [hw9, size_setRow]
  have z9 : w9.heap[w.heap.size]? = some (.cells #[str x2, .slice none 0 0, .slice p0 m0 o0, .slice p1 m1 o1, .slice p2 m2 o2, .slice p3 m3 o3, .slice p4 m4 o4, .int .i64 at0] 40 (0, 0)) := by rw [hw9]; exact setRow_heap _ _ _ _ _ _ B8.res
  have h9 := h8.move (w' := w9) (by omega) (o9 rb (by omega)) (o9 g (by omega))
  have k9 : Kp rb w w9 := by rw [hw9]; exact B8.kp.row (Nat.le_refl _)
  have Q9 := (Q8.move Qbm (w' := w9) (by omega) (fun b hb _ => o9 b (by omega))).ls Qbm
  have P9 : PgS (fun b => w.heap.size ≤ b) w9 [.slice p0 m0 o0, .slice p1 m1 o1, .slice p2 m2 o2, .slice p3 m3 o3, .slice p4 m4 o4] pg := Qar.mono _ _ _ _ _ (Qar.same _ _ w9 _ _ P8 (by omega) (fun b hb _ => o9 b (by have hb' : w5.heap.size ≤ b := hb; omega))) (fun b _ hb => by have hb' : w5.heap.size ≤ b := hb; omega)
  have hR : RA rb g cap l w d (coV w) (PgY a i y) (.returned (.agg #[str x2, .slice none 0 0, .slice p0 m0 o0, .slice p1 m1 o1, .slice p2 m2 o2, .slice p3 m3 o3, .slice p4 m4 o4, .int .i64 at0])) w9 := ⟨_, _, _, _, _, rfl, ⟨(x2, [], pg, at0), _, _, _, _, _, _, _, _, _, _, _, _, _, _, _, _, _, _, rfl, _, [.slice p0 m0 o0, .slice p1 m1 o1, .slice p2 m2 o2, .slice p3 m3 o3, .slice p4 m4 o4], rfl, rfl, Q9.mono Qbm (fun b _ hb => by have hb' : xb + 1 ≤ b := hb; omega), P9⟩, ⟨by omega, by omega, by omega, fun e => ey (hy8 e).1⟩, h9, k9⟩
  have HF := hide (Ya z9 hR)
  clear B7 Q7 P7 ea ei ey hxl B8 hx1 hr1 hg1 hx7 Q8 P8 hw9 o9 s9 z9 h9 k9 Q9 P9 hR h8 k8 ha8 hy8 H7
  go_wp2_with fail
  obtain ⟨z9, hR⟩ := Qa HF
  obtain ⟨z_0, z_1, z_2, z_3, z_4, z_5, z_6, z_7, zf⟩ := cl8 z9
  refine bodyPost_ret (v := .agg #[str x2, .slice none 0 0, .slice p0 m0 o0, .slice p1 m1 o1, .slice p2 m2 o2, .slice p3 m3 o3, .slice p4 m4 o4, .int .i64 at0]) (by simp [results, Try.results56, go_sem, z_0, z_1, z_2, z_3, z_4, z_5, z_6, z_7]) rfl ?_
  exact hR
 go_wp2_with fail
 have GD := hide ((Qa G4).call Qbm (EK.none _ _) (W' := w4.drew) (Kp.of_below (Below.refl _ w4).drew) ((Qa G4).r.later (Below.refl _ w4).drew) (Nat.le_refl _) (fun e => e))
 have hcl := Qdi (Qa GD).r
 go_wp2_with fail
 refine Qam (m := 7) (ml := [(0, 1), (1, 2), (2, 1), (3, 0), (4, 0), (5, 0), (6, 1), (7, 0)]) (fun ff w' => ff = false → w'.heap[xb]? = some (.cells #[str x2, .slice none 0 0, .slice none 0 0, .slice none 0 0, .slice none 0 0, .slice none 0 0, .slice none 0 0, .int .i64 at0] 40 (0, 0))) mixedO (by kernel_rfl) rfl (by rfl) (by kernel_rfl) (fun PP hPP => ?_)
 refine Qad rfl (by kernel_rfl) (fun _ _ _ => by go_simp <;> rfl) ?_
 refine Qaq (v := ?_) rfl (by kernel_rfl) (fun w' hw => ?_) ?_
 rotate_left
 · (obtain ⟨x_0, x_1, x_2, x_3, x_4, x_5, x_6, x_7, xf⟩ := cl8 (hw rfl); go_simp <;> rfl)
 refine Qad rfl (by kernel_rfl) (fun _ _ _ => by go_simp <;> rfl) ?_
 refine Qaa rfl (fun _ => (Qa GD).b.box) (fun K hK => ?_)
 go_simp
 refine hcl.mono ?_
 clear hcl
 rintro en w6 ⟨_, a6, i6, y6, f6, rfl, ⟨x6, rfl⟩, ⟨ei, ha6, hy6⟩, h6, k6⟩
 rw [ei] at h6
 clear ei
 show K _ _
 refine hK _ _ ?_
 clear hK K
 obtain ⟨i0, hi, hz, hsz, hby⟩ := infoS
 obtain ⟨ra, rc, w8, hrun, hr1, hr2, bx8, g8⟩ := (Qa GD).more Qbm (EK.none _ _) (by kernel_rfl : Try.prog.underlying 38 = some (.slice 9)) hi hz hsz hby rfl (by decide) (by decide) (cx := [str x6]) rfl (by simp [Value.oneCell', str]) (x := x6) rfl h6 k6 ha6 (fun e => ⟨(hy6 e).1, (hy6 e).2⟩) (by simp) 1
 obtain ⟨w7, hw7⟩ : ∃ w7, w7 = w6.alloc (.cells #[str x6] 9) := ⟨_, rfl⟩
 have b7 : Below w6.heap.size w6 w7 := by rw [hw7]; exact (Below.refl _ w6).alloc (Nat.le_refl _) _
 have bx6 := k6.keep (Qa GD).b.box (by have := (Qa GD).b.r1; have := (Qa GD).b.x1; omega)
 have HC6 := hide bx6
 have HC7 := hide ((b7.block _ (Qab bx6)).trans bx6)
 have HC8 := hide bx8
 obtain ⟨z_0, z_1, z_2, z_3, z_4, z_5, z_6, z_7, zf⟩ := cl8 bx8
 have hrun' : (Builtin.append_ #[38, 38] 38 #[.slice none 0 0, .slice (some ⟨w6.heap.size, 0, none⟩) 1 1]).run Try.prog w7 = .ok (.slice ra (0 + 1) rc) w8 := by rw [hw7]; exact hrun
 have HW7 := hide hw7
 have HG8 := hide g8
 clear ha6 hy6 h6 k6 hi hz hsz hby hrun hw7 b7 bx6 bx8 g8
 refine Qaa rfl (fun _ => Qa HC6) (fun K hK => ?_)
 go_simp
 rw [← Qa HW7]
 clear HW7
 refine hK _ _ ?_
 clear hK K
 refine Qaa rfl (fun _ => Qa HC7) (fun K hK => Qas rfl _ _ 38 rfl _ _ rfl rfl hrun' (hK _ _ ?_))
 clear hK K hrun'
 refine Qad rfl (by kernel_rfl) (fun _ _ _ => by go_simp <;> rfl) ?_
 refine Qaa rfl (fun _ => Qa HC8) (fun K hK => ?_)
 go_simp
 refine hK _ _ ?_
 clear hK K
 refine Qap (fun h => by cases h) (hPP _ _ ?_)
 clear hPP PP
 go_wp2_with fail
 clear z_0 z_1 z_2 z_3 z_4 z_5 z_6 z_7 zf
 go_loopw [19] (fun _ wr => ∃ (acc : List Txt) (a1 : Nat) (y1 f1 : Int) (sa : Option Addr) (sc : Nat), acc.length ≤ sc ∧ sc ≤ maxLen ∧ Hid (Gx PSt 1 9 rb g cap l w d i a y xb 40 #[.string ⟨#[]⟩, .slice none 0 0, .slice none 0 0, .slice none 0 0, .slice none 0 0, .slice none 0 0, .slice none 0 0, .int .i64 0] (fun _ => True) wr #[str x2, .slice sa acc.length sc, .slice none 0 0, .slice none 0 0, .slice none 0 0, .slice none 0 0, .slice none 0 0, .int .i64 at0] a1 y1 f1 (.slice sa acc.length sc) acc)) (fun _ wr => leftR rb l.length wr)
 case atStart => exact ⟨[x6], a6, y6, f6, ra, rc, by simpa using hr1, hr2, hide (by simpa using Qa HG8)⟩
 obtain ⟨acc, a1, y1, f1, sa, sc, hc1, hc2, HI⟩ := hrel
 unfold maxLen at hc2
 clear HG8
 have hmy := Qb (Qa HI).r ⟨#[44]⟩
 go_wp2_with fail
 refine hmy.mono ?_
 clear hmy
 rintro en WX ⟨b, aM, fM, rfl, hb1, hb0, hM, kM⟩
 have eM : a1 ≤ aM := by
  cases b with
  | true => have := (hb1 rfl).2; omega
  | false => have := hb0 rfl; omega
 have GM := hide ((Qa HI).call Qbm (EK.none _ _) kM hM eM (fun e => e))
 have HA1 := hide eM
 cases b
 ·
  clear hb1 hb0 hM kM eM
  have hms := Qbd (Qa GM).r ⟨#[123]⟩
  go_wp2_with fail
  refine hms.mono ?_
  clear hms
  rintro en w5 ⟨_, a5, i5, y5, f5, rfl, rfl, ⟨ei, ha5, hy5⟩, h5, k5⟩
  rw [ei] at h5
  clear ei
  have G5 := hide ((Qa GM).call Qbm (EK.none _ _) k5 h5 ha5 (fun e => (hy5 e).1))
  clear ha5 hy5 h5 k5
  have hpg := Qa HP w5 _ _ _ _ (Qa G5).r (Qa HI0).1 (fun e => (Qa HI0).2 ((Qa G5).y0 e).1)
  go_wp2_with fail
  refine hpg.mono ?_
  clear hpg
  rintro en w6 ⟨_, a6, i6, y6, f6, rfl, ⟨pg, p0, m0, o0, p1, m1, o1, p2, m2, o2, p3, m3, o3, p4, m4, o4, rfl, hpg, -, -⟩, ⟨ha6, hi6, hi7, hy6⟩, h6, k6⟩
  have g5 := Qa G5
  have B6 := g5.b.call k6
  have hx1 := g5.b.x1
  have hr1 := g5.b.r1
  have hg1 := g5.b.g1
  have hxl := Qab g5.b.box
  have hs6 := k6.size
  obtain ⟨w7, hw7⟩ : ∃ w7, w7 = (((((w6.setCell ⟨xb, 2, none⟩ (.slice p0 m0 o0)).setCell ⟨xb, 3, none⟩ (.slice p1 m1 o1)).setCell ⟨xb, 4, none⟩ (.slice p2 m2 o2)).setCell ⟨xb, 5, none⟩ (.slice p3 m3 o3)).setCell ⟨xb, 6, none⟩ (.slice p4 m4 o4)) := ⟨_, rfl⟩
  have o7 : ∀ q, q ≠ xb → w7.heap[q]? = w6.heap[q]? := fun q hq => by rw [hw7, hpS hq, hpS hq, hpS hq, hpS hq, hpS hq]
  have s7 : w7.heap.size = w6.heap.size := by rw [hw7]; simp
  have B7 : Bx rb g w xb 40 #[.string ⟨#[]⟩, .slice none 0 0, .slice none 0 0, .slice none 0 0, .slice none 0 0, .slice none 0 0, .slice none 0 0, .int .i64 0] #[str x2, .slice sa acc.length sc, .slice p0 m0 o0, .slice p1 m1 o1, .slice p2 m2 o2, .slice p3 m3 o3, .slice p4 m4 o4, .int .i64 at0] w7 := by rw [hw7]; exact ((((B6.set 2 _).set 3 _).set 4 _).set 5 _).set 6 _
  have h7 := h6.move (w' := w7) (by omega) (o7 rb (by omega)) (o7 g (by omega))
  have Q7 := g5.q.move Qbm (w' := w7) (by omega) (fun b hb hl => (o7 b (by omega)).trans (k6.block b hl (by omega)))
  have P7 : PgS (fun b => w5.heap.size ≤ b) w7 [.slice p0 m0 o0, .slice p1 m1 o1, .slice p2 m2 o2, .slice p3 m3 o3, .slice p4 m4 o4] pg := Qar.same _ _ w7 _ _ hpg (by omega) (fun b hb _ => o7 b (by have hb' : w5.heap.size ≤ b := hb; omega))
  have hms := Qbd h7 ⟨#[125]⟩
  obtain ⟨x_0, x_1, x_2, x_3, x_4, x_5, x_6, x_7, xf⟩ := cl8 B6.box
  have H7 := hide (Ya B7 (Ya Q7 (Ya P7 (Ya (show a ≤ a6 by have := g5.le; omega) (Ya (show i ≤ i6 ∧ i6 ≤ 97 from ⟨hi6, hi7⟩) (Ya (show y6 = 0 → y = 0 ∧ i6 ≤ 96 from fun e => ⟨(g5.y0 (hy6 e).1).1, (hy6 e).2⟩) hxl))))))
  have HW7 := hide hw7
  clear g5 B6 hx1 hr1 hg1 hxl hs6 hw7 o7 s7 B7 h7 Q7 P7 hpg ha6 hi6 hi7 hy6 h6 k6 G5
  go_wp2_with fail
  rw [← Qa HW7]
  clear HW7 x_0 x_1 x_2 x_3 x_4 x_5 x_6 x_7 xf
  refine hms.mono ?_
  clear hms
  rintro en w8 ⟨_, a8, i8, y8, f8, rfl, rfl, ⟨ei, ha8, hy8⟩, h8, k8⟩
  rw [ei] at h8
  clear ei
  obtain ⟨B7, Q7, P7, ea, ei, ey, hxl⟩ := Qa H7
  have B8 := B7.call k8
  have hx1 := B8.x1
  have hr1 := B8.r1
  have hg1 := B8.g1
  have hx7 := Qab B7.box
  have Q8 := Q7.move Qbm k8.size (fun b hb hl => k8.block b hl (by omega))
  have P8 := Qar.same _ _ w8 _ _ P7 k8.size (fun b hb hl => k8.block b hl (by have hb' : w5.heap.size ≤ b := hb; omega))
  have L8 := co_ld B8.box
  have S8 := Qqq (new := #[str x2, .slice sa acc.length sc, .slice p0 m0 o0, .slice p1 m1 o1, .slice p2 m2 o2, .slice p3 m3 o3, .slice p4 m4 o4, .int .i64 at0]) B8.res rfl rfl (by simp [Value.oneCell', str])
  obtain ⟨w9, hw9⟩ : ∃ w9, w9 = w8.setRow w.heap.size #[str x2, .slice sa acc.length sc, .slice p0 m0 o0, .slice p1 m1 o1, .slice p2 m2 o2, .slice p3 m3 o3, .slice p4 m4 o4, .int .i64 at0] := ⟨_, rfl⟩
  rw [← hw9] at S8
  have o9 : ∀ q, q ≠ w.heap.size → w9.heap[q]? = w8.heap[q]? := fun q hq => by rw [hw9]; exact setRow_other _ _ _ _ hq
  have s9 : w9.heap.size = w8.heap.size := by rw [hw9, size_setRow]
  have z9 : w9.heap[w.heap.size]? = some (.cells #[str x2, .slice sa acc.length sc, .slice p0 m0 o0, .slice p1 m1 o1, .slice p2 m2 o2, .slice p3 m3 o3, .slice p4 m4 o4, .int .i64 at0] 40 (0, 0)) := by rw [hw9]; exact setRow_heap _ _ _ _ _ _ B8.res
  have h9 := h8.move (w' := w9) (by omega) (o9 rb (by omega)) (o9 g (by omega))
  have k9 : Kp rb w w9 := by rw [hw9]; exact B8.kp.row (Nat.le_refl _)
  have Q9 := (Q8.move Qbm (w' := w9) (by omega) (fun b hb _ => o9 b (by omega))).ls Qbm
  have P9 : PgS (fun b => w.heap.size ≤ b) w9 [.slice p0 m0 o0, .slice p1 m1 o1, .slice p2 m2 o2, .slice p3 m3 o3, .slice p4 m4 o4] pg := Qar.mono _ _ _ _ _ (Qar.same _ _ w9 _ _ P8 (by omega) (fun b hb _ => o9 b (by have hb' : w5.heap.size ≤ b := hb; omega))) (fun b _ hb => by have hb' : w5.heap.size ≤ b := hb; omega)
  have hR : RA rb g cap l w d (coV w) (PgY a i y) (.returned (.agg #[str x2, .slice sa acc.length sc, .slice p0 m0 o0, .slice p1 m1 o1, .slice p2 m2 o2, .slice p3 m3 o3, .slice p4 m4 o4, .int .i64 at0])) w9 := ⟨_, _, _, _, _, rfl, ⟨(x2, acc, pg, at0), _, _, _, _, _, _, _, _, _, _, _, _, _, _, _, _, _, _, rfl, _, [.slice p0 m0 o0, .slice p1 m1 o1, .slice p2 m2 o2, .slice p3 m3 o3, .slice p4 m4 o4], rfl, rfl, Q9.mono Qbm (fun b _ hb => by have hb' : xb + 1 ≤ b := hb; omega), P9⟩, ⟨by omega, by omega, by omega, fun e => ey (hy8 e).1⟩, h9, k9⟩
  have HF := hide (Ya z9 hR)
  clear B7 Q7 P7 ea ei ey hxl B8 hx1 hr1 hg1 hx7 Q8 P8 hw9 o9 s9 z9 h9 k9 Q9 P9 hR h8 k8 ha8 hy8 H7
  go_wp2_with fail
  obtain ⟨z9, hR⟩ := Qa HF
  obtain ⟨z_0, z_1, z_2, z_3, z_4, z_5, z_6, z_7, zf⟩ := cl8 z9
  refine bodyPost_ret (v := .agg #[str x2, .slice sa acc.length sc, .slice p0 m0 o0, .slice p1 m1 o1, .slice p2 m2 o2, .slice p3 m3 o3, .slice p4 m4 o4, .int .i64 at0]) (by simp [results, Try.results56, go_sem, z_0, z_1, z_2, z_3, z_4, z_5, z_6, z_7]) rfl ?_
  exact hR
 have HY := hide (hb1 rfl).1
 have HNL := hide (show acc.length ≤ aM by have := (Qa HI).n0 (Qa HY); omega)
 clear hb1 hb0 hM kM eM
 have GD := hide ((Qa GM).call Qbm (EK.none _ _) (W' := WX.drew) (Kp.of_below (Below.refl _ WX).drew) ((Qa GM).r.later (Below.refl _ WX).drew) (Nat.le_refl _) (fun e => e))
 have hcl := Qdi (Qa GD).r
 go_wp2_with fail
 refine Qam (m := 7) (ml := [(0, 1), (1, 2), (2, 1), (3, 0), (4, 0), (5, 0), (6, 1), (7, 0)]) (fun ff w' => ff = false → w'.heap[xb]? = some (.cells #[str x2, .slice sa acc.length sc, .slice none 0 0, .slice none 0 0, .slice none 0 0, .slice none 0 0, .slice none 0 0, .int .i64 at0] 40 (0, 0))) mixedO (by kernel_rfl) rfl (by rfl) (by kernel_rfl) (fun PP hPP => ?_)
 refine Qad rfl (by kernel_rfl) (fun _ _ _ => by go_simp <;> rfl) ?_
 refine Qaq (v := ?_) rfl (by kernel_rfl) (fun w' hw => ?_) ?_
 rotate_left
 · (obtain ⟨x_0, x_1, x_2, x_3, x_4, x_5, x_6, x_7, xf⟩ := cl8 (hw rfl); go_simp <;> rfl)
 refine Qad rfl (by kernel_rfl) (fun _ _ _ => by go_simp <;> rfl) ?_
 refine Qaa rfl (fun _ => (Qa GD).b.box) (fun K hK => ?_)
 go_simp
 refine hcl.mono ?_
 clear hcl
 rintro en w6 ⟨_, a6, i6, y6, f6, rfl, ⟨x6, rfl⟩, ⟨ei, ha6, hy6⟩, h6, k6⟩
 rw [ei] at h6
 clear ei
 show K _ _
 refine hK _ _ ?_
 clear hK K
 obtain ⟨i0, hi, hz, hsz, hby⟩ := infoS
 obtain ⟨ra, rc, w8, hrun, hr1, hr2, bx8, g8⟩ := (Qa GD).more Qbm (EK.none _ _) (by kernel_rfl : Try.prog.underlying 38 = some (.slice 9)) hi hz hsz hby rfl (by decide) (by decide) (cx := [str x6]) rfl (by simp [Value.oneCell', str]) (x := x6) rfl h6 k6 ha6 (fun e => ⟨(hy6 e).1, (hy6 e).2⟩) (by have := Qa HNL; omega) 1
 obtain ⟨w7, hw7⟩ : ∃ w7, w7 = w6.alloc (.cells #[str x6] 9) := ⟨_, rfl⟩
 have b7 : Below w6.heap.size w6 w7 := by rw [hw7]; exact (Below.refl _ w6).alloc (Nat.le_refl _) _
 have bx6 := k6.keep (Qa GD).b.box (by have := (Qa GD).b.r1; have := (Qa GD).b.x1; omega)
 have HC6 := hide bx6
 have HC7 := hide ((b7.block _ (Qab bx6)).trans bx6)
 have HC8 := hide bx8
 obtain ⟨z_0, z_1, z_2, z_3, z_4, z_5, z_6, z_7, zf⟩ := cl8 bx8
 have hrun' : (Builtin.append_ #[38, 38] 38 #[.slice sa acc.length sc, .slice (some ⟨w6.heap.size, 0, none⟩) 1 1]).run Try.prog w7 = .ok (.slice ra (acc.length + 1) rc) w8 := by rw [hw7]; exact hrun
 have HW7 := hide hw7
 have hlf := Qai (Qa HI).r l.length
 have hlz := Qai g8.r l.length
 have HM := hide (Ya hlf (Ya hlz (Ya (Qa HI).r.lt (Ya g8.r.lt (Ya ha6 hy6)))))
 clear hlf hlz
 have HG8 := hide g8
 clear ha6 hy6 h6 k6 hi hz hsz hby hrun hw7 b7 bx6 bx8 g8
 refine Qaa rfl (fun _ => Qa HC6) (fun K hK => ?_)
 go_simp
 rw [← Qa HW7]
 clear HW7
 refine hK _ _ ?_
 clear hK K
 refine Qaa rfl (fun _ => Qa HC7) (fun K hK => Qas rfl _ _ 38 rfl _ _ rfl rfl hrun' (hK _ _ ?_))
 clear hK K hrun'
 refine Qad rfl (by kernel_rfl) (fun _ _ _ => by go_simp <;> rfl) ?_
 refine Qaa rfl (fun _ => Qa HC8) (fun K hK => ?_)
 go_simp
 refine hK _ _ ?_
 clear hK K
 refine Qap (fun h => by cases h) (hPP _ _ ?_)
 clear hPP PP
 go_wp2_with fail
 go_roundw
 case rel => exact ⟨acc ++ [x6], a6, y6, f6, ra, rc, by simpa using hr1, hr2, hide (by simpa using Qa HG8)⟩
 obtain ⟨hlf, hlz, m1, m2, ha6, hy6⟩ := Qa HM
 rw [hlf, hlz, if_pos (Qa HY)]
 split
 ·
  rename_i e
  have := hy6 e
  have := Qa HA1
  omega
 · omega
end
section
open Go.RowKit Go.Maps
def pgX (w : World) (w' : World) (v : Value) (x : Pg) : Prop := ∃ (p0 : Option Addr) (m0 o0 : Nat) (p1 : Option Addr) (m1 o1 : Nat) (p2 : Option Addr) (m2 o2 : Nat) (p3 : Option Addr) (m3 o3 : Nat) (p4 : Option Addr) (m4 o4 : Nat), v = .agg #[.slice p0 m0 o0, .slice p1 m1 o1, .slice p2 m2 o2, .slice p3 m3 o3, .slice p4 m4 o4] ∧ PgS (fun b => w.heap.size ≤ b) w' [.slice p0 m0 o0, .slice p1 m1 o1, .slice p2 m2 o2, .slice p3 m3 o3, .slice p4 m4 o4] x
def YP (rb g cap : Nat) (l : List Tok) (d i j : Nat) (K r : List Tok) (x : Pg) : Prop := ∀ (w : World) (a : Nat), Rr rb g cap l w a d i 0 0 → Nxt l a (K ++ r) →
 Calls Try.prog 16 #[.pointer (some ⟨rb, 0, none⟩)] w fun en w' => XB rb g cap l w d (fun w' v => ∃ x', pgX w w' v x' ∧ eqPg x' x = true) r j en w'
attribute [local go_sem ↓] Qda Qdh
end
end Go.Proofs.Ytfmbpaoapjmdnaa
