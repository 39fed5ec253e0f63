/- show: Show. show: Format. show: alive, ShowAgain. -/
import Derived.Test.YtccehgfecaamoaaGreatDoorQa33
import Derived.Test.YtccehgfecaamoaaGreatDoorQa22
set_option maxRecDepth 100000
set_option maxHeartbeats 32000000
namespace Go.Proofs.YtccehgfecaamoaaGreatDoor
section
open Go.RowKit Go.Maps
theorem cl5p {w : World} {b : Nat} {T : TypeId} {v0 v1 v2 v3 v4 : Value} (h : w.heap[b]? = some (.cells #[v0, v1, v2, v3, v4] T (0, 0))) : w.cell? ⟨b, 0, none⟩ = some v0 ∧ w.cell? ⟨b, 1, none⟩ = some v1 ∧ w.cell? ⟨b, 2, none⟩ = some v2 ∧ w.cell? ⟨b, 3, none⟩ = some v3 ∧ w.cell? ⟨b, 4, none⟩ = some v4 :=
 ⟨(Qaa h 0).trans rfl, (Qaa h 1).trans rfl, (Qaa h 2).trans rfl, (Qaa h 3).trans rfl, (Qaa h 4).trans rfl⟩
theorem wr_new (w : World) (ht : Tbl w.heap.size w) : Wr w.heap.size w.heap.size [] false (w.alloc (.cells #[.pointer none, .slice none 0 0, .bool false] 55)) :=
 ⟨Nat.le_refl _, by simp, ht.below ((Below.refl _ w).alloc (Nat.le_refl _) _), _, _, heap_alloc_new w _, .inl rfl, World.ownsRowF_of (World.ownsRow_nil _ _ _ _), by simp [Value.ownBlock]⟩
theorem Qta {p : Pg} {c : Txt} (h : WT [] false (pgT p) c true) : showP p = ([], 2) := by
 unfold showP
 by_cases hl : 65536 < (pgT p).length
 · rw [if_pos hl]
 have := (h.2.1 rfl (by simp; omega)).2
 cases this
theorem Qqt {p : Pg} {c : Txt} (h : WT [] false (pgT p) c false) : c = pgT p ∧ (pgT p).length ≤ 65536 := by
 by_cases hl : (pgT p).length ≤ 65536
 · exact ⟨by simpa using (h.2.1 rfl (by simpa using hl)).1, hl⟩
 have := h.2.2 rfl (by simp; omega)
 cases this
theorem Qsz (p : Pg) (hp : ShP p) {S : Nat → Prop} {w : World} {a0 a1 a2 a3 a4 : Option Addr} {n0 n1 n2 n3 n4 c0 c1 c2 c3 c4 : Nat} (hP : PgS S w [.slice a0 n0 c0, .slice a1 n1 c1, .slice a2 n2 c2, .slice a3 n3 c3, .slice a4 n4 c4] p) (hE : Env w) (ht : Tbl w.heap.size w) :
  Calls Tryz.prog 7 #[.agg #[.slice a0 n0 c0, .slice a1 n1 c1, .slice a2 n2 c2, .slice a3 n3 c3, .slice a4 n4 c4]] w fun en w' => en = .returned (.tuple #[str (showP p).1, .int .i64 (showP p).2]) ∧ Below w.heap.size w w' := by
 obtain ⟨w1, hw1⟩ : ∃ w1, w1 = w.alloc (.cells #[.slice a0 n0 c0, .slice a1 n1 c1, .slice a2 n2 c2, .slice a3 n3 c3, .slice a4 n4 c4] 28) := ⟨_, rfl⟩
 have b1 : Below w.heap.size w w1 := by rw [hw1]; exact (Below.refl _ w).alloc (Nat.le_refl _) _
 have m1 : w1.heap[w.heap.size]? = some (.cells #[.slice a0 n0 c0, .slice a1 n1 c1, .slice a2 n2 c2, .slice a3 n3 c3, .slice a4 n4 c4] 28 (0, 0)) := by rw [hw1]; exact heap_alloc_new w _
 have z1 : w1.heap.size = w.heap.size + 1 := by rw [hw1]; simp
 obtain ⟨w2, hw2⟩ : ∃ w2, w2 = w1.alloc (.cells #[.pointer none, .slice none 0 0, .bool false] 55) := ⟨_, rfl⟩
 have b2 : Below w1.heap.size w1 w2 := by rw [hw2]; exact (Below.refl _ w1).alloc (Nat.le_refl _) _
 have hwr := wr_new w1 ((ht.below b1).more (by omega))
 rw [← hw2] at hwr
 obtain ⟨gB, hgB⟩ : ∃ gB, gB = w1.heap.size := ⟨_, rfl⟩
 rw [← hgB] at hwr b2
 have b12 : Below w.heap.size w w2 := b1.trans (b2.mono (by omega))
 have hP1 : PgS (fun q => q < gB) w2 [.slice a0 n0 c0, .slice a1 n1 c1, .slice a2 n2 c2, .slice a3 n3 c3, .slice a4 n4 c4] p := by
  have h1 := Qat.mono _ (fun q => q < w.heap.size) _ _ _ hP (fun b hb _ => hb)
  have h2 := Qat.same _ _ w2 _ _ h1 b12.size (fun q hq _ => b12.block q hq)
  exact Qat.mono _ _ _ _ _ h2 (fun b _ hb => by show b < gB; have : b < w.heap.size := hb; omega)
 have m2 : w2.heap[w.heap.size]? = some (.cells #[.slice a0 n0 c0, .slice a1 n1 c1, .slice a2 n2 c2, .slice a3 n3 c3, .slice a4 n4 c4] 28 (0, 0)) := (b2.block _ (by omega)).trans m1
 have hpr := Qrr p hp w2 [] false _ hP1 hwr
 obtain ⟨x0, x1, x2, x3, x4⟩ := cl5p m2
 have HW := hide (Ya hw1 (Ya hw2 (Ya hgB z1)))
 have HM := hide (Ya b12 (Ya m2 hP1))
 have HE := hide hE
 have gz : w.heap.size < gB := by omega
 clear hw1 b1 m1 z1 hw2 b2 hwr hgB b12 hP1 m2 hP hE ht hp
 go_enter Tryz.func7, Tryz.ntmps7
 go_upto_region 2 with fail
 rw [← (Qa HW).1, ← (Qa HW).2.1, show w.heap.size + 1 = gB from ((Qa HW).2.2.1.trans (Qa HW).2.2.2).symm]
 go_wp2_with fail
 refine hpr.mono ?_
 clear hpr x0 x1 x2 x3 x4
 rintro en w3 ⟨rfl, k3, t3, l3, g3, e3⟩
 obtain ⟨b12, m2, hP1⟩ := Qa HM
 have m3 : w3.heap[w.heap.size]? = some (.cells #[.slice a0 n0 c0, .slice a1 n1 c1, .slice a2 n2 c2, .slice a3 n3 c3, .slice a4 n4 c4] 28 (0, 0)) := (k3.below.block _ gz).trans m2
 have b3 : Below w.heap.size w w3 := b12.trans (k3.below.mono (Nat.le_of_lt gz))
 have hP3 := Qat.same _ _ w3 _ _ hP1 k3.below.size (fun q hq _ => k3.below.block q hq)
 obtain ⟨_, _, hbx, _⟩ := g3.box
 obtain ⟨_, _, u2, _, uf⟩ := cl3w hbx
 clear hbx k3 m2 b12 hP1
 cases l3
 ·
  obtain ⟨ec, hl6⟩ := Qqt e3
  rw [ec] at g3
  have hst := Qkv g3
  have HK := hide (Ya m3 (Ya b3 (Ya hP3 hl6)))
  clear m3 b3 hP3 g3 e3 ec hl6
  go_wp2_with fail
  refine hst.mono ?_
  clear hst u2 uf
  rintro en w4 ⟨rfl, b4⟩
  obtain ⟨m3, b3, hP3, hl6⟩ := Qa HK
  have m4 : w4.heap[w.heap.size]? = some (.cells #[.slice a0 n0 c0, .slice a1 n1 c1, .slice a2 n2 c2, .slice a3 n3 c3, .slice a4 n4 c4] 28 (0, 0)) := (b4.block _ gz).trans m3
  have bw4 : Below w.heap.size w w4 := b3.trans (b4.mono (Nat.le_of_lt gz))
  have hP4 := Qat.same _ _ w4 _ _ hP3 b4.size (fun q hq _ => b4.block q hq)
  have hps := Qet ⟨(pgT p).toArray⟩ (by simp [ByteArray.size]; omega) w4 ((Qa HE).later bw4)
  rw [show (⟨(pgT p).toArray⟩ : ByteArray).data.toList = pgT p by simp, show (Value.string ⟨(pgT p).toArray⟩) = str (pgT p) from rfl] at hps
  have HK4 := hide (Ya m4 (Ya bw4 (Ya hP4 hl6)))
  clear m3 b3 hP3 hl6 m4 bw4 hP4 b4
  go_wp2_with fail
  refine hps.mono ?_
  clear hps
  intro en w5 ha
  obtain ⟨m4, bw4, hP4, hl6⟩ := Qa HK4
  cases hr : parseP (pgT p) with
  | bad why at_ l =>
   rw [hr] at ha
   obtain ⟨rfl, b5⟩ := ha
   have gw : (why == 0) = false := by simpa using Qdg hr
   have gn : ¬ why = 0 := Qdg hr
   have HR := hide (show showP p = ([], 1) by unfold showP; rw [if_neg (by omega), hr])
   have HB := hide (bw4.trans (b5.mono bw4.size))
   clear hr m4 bw4 hP4 hl6 b5
   go_wp2_with fail
   go_ret2
   rw [Qa HR]
   exact ⟨rfl, ((Qa HB).alloc (Qa HB).size _).alloc (by have := (Qa HB).size; simp; omega) _⟩
  | ok q l i =>
   rw [hr] at ha
   obtain ⟨v, rfl, ⟨d0, k0, f0, d1, k1, f1, d2, k2, f2, d3, k3, f3, d4, k4, f4, rfl, hQ⟩, b5⟩ := ha
   obtain ⟨w6, hw6⟩ : ∃ w6, w6 = (w5.alloc (.cells #[.slice d0 k0 f0, .slice d1 k1 f1, .slice d2 k2 f2, .slice d3 k3 f3, .slice d4 k4 f4] 28)).alloc (.cells #[.int .i64 0, .int .i64 0] 31) := ⟨_, rfl⟩
   have b6 : Below w5.heap.size w5 w6 := by rw [hw6]; exact ((Below.refl _ w5).alloc (Nat.le_refl _) _).alloc (by simp) _
   have bw5 := bw4.trans (b5.mono bw4.size)
   have bw6 := bw5.trans (b6.mono bw5.size)
   have m6 : w6.heap[w.heap.size]? = some (.cells #[.slice a0 n0 c0, .slice a1 n1 c1, .slice a2 n2 c2, .slice a3 n3 c3, .slice a4 n4 c4] 28 (0, 0)) := (b6.block _ (Nat.lt_of_lt_of_le (Qaf m4) b5.size)).trans ((b5.block _ (Qaf m4)).trans m4)
   obtain ⟨x0, x1, x2, x3, x4⟩ := cl5p m6
   have q6 : PgS (fun _ => True) w6 [.slice d0 k0 f0, .slice d1 k1 f1, .slice d2 k2 f2, .slice d3 k3 f3, .slice d4 k4 f4] q :=
    Qat.mono _ _ _ _ _ (Qat.same _ _ w6 _ _ hQ b6.size (fun b _ hb => b6.block b hb)) (fun _ _ _ => trivial)
   have p5 := Qat.same _ _ w5 _ _ (Qat.mono _ (fun q => q < w4.heap.size) _ _ _ hP4 (fun b hb _ => hb)) b5.size (fun q hq _ => b5.block q hq)
   have p6 : PgS (fun _ => True) w6 [.slice a0 n0 c0, .slice a1 n1 c1, .slice a2 n2 c2, .slice a3 n3 c3, .slice a4 n4 c4] p :=
    Qat.mono _ _ _ _ _ (Qat.same _ _ w6 _ _ p5 b6.size (fun b _ hb => b6.block b hb)) (fun _ _ _ => trivial)
   have hsm := Qgo q p _ w6 _ _ _ _ _ _ _ _ _ _ q6 p6
   rw [hw6] at x0 x1 x2 x3 x4 hsm
   have HB := hide (Ya bw6 hw6)
   obtain ⟨r, hrr⟩ : ∃ r, eqPg q p = r := ⟨_, rfl⟩
   rw [hrr] at hsm
   have HR := hide (show showP p = if r = true then (pgT p, 0) else ([], 1) by unfold showP; rw [if_neg (by omega), hr]; simp only; rw [hrr])
   clear hr m4 bw4 hP4 hl6 b5 hw6 b6 bw5 bw6 m6 q6 p5 p6 hrr hQ
   go_wp2_with fail
   refine hsm.mono ?_
   clear hsm x0 x1 x2 x3 x4
   rintro en w7 ⟨rfl, b7⟩
   have HB7 := hide (show Below w.heap.size w w7 by
    obtain ⟨bw6, hw6⟩ := Qa HB
    rw [← hw6] at b7
    exact bw6.trans (b7.mono bw6.size))
   clear b7
   cases r
   ·
    go_wp2_with fail
    go_ret2
    rw [Qa HR]
    exact ⟨rfl, Qa HB7⟩
   go_wp2_with fail
   go_ret2
   rw [Qa HR]
   exact ⟨rfl, Qa HB7⟩
 have HR := hide (Ya (Qta e3) b3)
 clear m3 b3 hP3 g3 e3
 go_wp2_with fail
 go_ret2
 rw [(Qa HR).1]
 exact ⟨rfl, (Qa HR).2⟩
end
section
open Go.RowKit Go.Maps
theorem Qej (s : ByteArray) (hs : s.size ≤ 140737488355328) (w : World) (hE : Env w) (ht : Tbl w.heap.size w) :
  Calls Tryz.prog 10 #[.string s] w fun en w' => en = .returned (.tuple #[str (formatP s.data.toList).1, .agg #[.int .i64 (formatP s.data.toList).2.1, .int .i64 (formatP s.data.toList).2.2]]) ∧ Below w.heap.size w w' := by
 obtain ⟨w1, hw1⟩ : ∃ w1, w1 = w.alloc (.cells #[.int .i64 0, .int .i64 0] 31) := ⟨_, rfl⟩
 have b1 : Below w.heap.size w w1 := by rw [hw1]; exact (Below.refl _ w).alloc (Nat.le_refl _) _
 have m1 : w1.heap[w.heap.size]? = some (.cells #[.int .i64 0, .int .i64 0] 31 (0, 0)) := by rw [hw1]; exact heap_alloc_new w _
 have hps := Qet s (by omega) w1 (hE.later b1)
 have HE := hide (Ya hE ht)
 have HB := hide (Ya b1 m1)
 have HW := hide hw1
 clear hE ht b1 m1 hw1
 go_enter Tryz.func10, Tryz.ntmps10
 go_upto_region 1 with fail
 rw [← Qa HW]
 go_wp2_with fail
 refine hps.mono ?_
 clear hps
 intro en w2 ha
 obtain ⟨b1, m1⟩ := Qa HB
 cases hr : parseP s.data.toList with
 | bad why at_ l =>
  rw [hr] at ha
  obtain ⟨rfl, b2⟩ := ha
  have gw : (why == 0) = false := by simpa using Qdg hr
  have gn : ¬ why = 0 := Qdg hr
  have HR := hide (show formatP s.data.toList = ([], why, at_) by unfold formatP; rw [hr])
  have bw := b1.trans (b2.mono b1.size)
  have m2 : w2.heap[w.heap.size]? = some (.cells #[.int .i64 0, .int .i64 0] 31 (0, 0)) := (b2.block _ (Qaf m1)).trans m1
  have hl2 := Qaf m2
  obtain ⟨w3, hw3⟩ : ∃ w3, w3 = (w2.alloc (.cells #[.slice none 0 0, .slice none 0 0, .slice none 0 0, .slice none 0 0, .slice none 0 0] 28)).alloc (.cells #[.int .i64 why, .int .i64 at_] 31) := ⟨_, rfl⟩
  have b3 : Below w2.heap.size w2 w3 := by rw [hw3]; exact ((Below.refl _ w2).alloc (Nat.le_refl _) _).alloc (by simp) _
  have m3 : w3.heap[w.heap.size]? = some (.cells #[.int .i64 0, .int .i64 0] 31 (0, 0)) := (b3.block _ hl2).trans m2
  have n3 : w3.heap[w2.heap.size + 1]? = some (.cells #[.int .i64 why, .int .i64 at_] 31 (0, 0)) := by
   rw [hw3]
   have := heap_alloc_new (w2.alloc (.cells #[.slice none 0 0, .slice none 0 0, .slice none 0 0, .slice none 0 0, .slice none 0 0] 28)) (.cells #[.int .i64 why, .int .i64 at_] 31)
   simpa using this
  obtain ⟨x0, x1, xf⟩ := cl2 m3
  obtain ⟨y0, y1, yf⟩ := cl2 n3
  have HW3 := hide hw3
  have HB3 := hide (bw.trans (b3.mono bw.size))
  clear b1 m1 b2 m2 bw b3 n3 hw3
  have HZ := hide (show ((w3.setCell ⟨w.heap.size, 0, none⟩ (.int .i64 why)).setCell ⟨w.heap.size, 1, none⟩ (.int .i64 at_)).heap[w.heap.size]? = some (.cells #[.int .i64 why, .int .i64 at_] 31 (0, 0)) from (Qac (Qac m3 0 _) 1 _).trans rfl)
  clear m3
  go_upto_region 3 with fail
  rw [← Qa HW3]
  go_region
  go_wp2_with fail
  obtain ⟨z0, z1, _⟩ := cl2 (Qa HZ)
  refine bodyPost_ret (v := .tuple #[.string ⟨#[]⟩, .agg #[.int .i64 why, .int .i64 at_]]) (by simp [results, Tryz.results10, go_sem, z0, z1]) rfl ?_
  rw [Qa HR]
  exact ⟨rfl, Below.drew (((Qa HB3).setCell (p := ⟨w.heap.size, 0, none⟩) (Nat.le_refl _) _).setCell (p := ⟨w.heap.size, 1, none⟩) (Nat.le_refl _) _)⟩
 | ok p l i =>
  rw [hr] at ha
  obtain ⟨v, rfl, ⟨d0, k0, f0, d1, k1, f1, d2, k2, f2, d3, k3, f3, d4, k4, f4, rfl, hQ⟩, b2⟩ := ha
  have bw := b1.trans (b2.mono b1.size)
  have m2 : w2.heap[w.heap.size]? = some (.cells #[.int .i64 0, .int .i64 0] 31 (0, 0)) := (b2.block _ (Qaf m1)).trans m1
  have hl2 := Qaf m2
  obtain ⟨w3, hw3⟩ : ∃ w3, w3 = (w2.alloc (.cells #[.slice d0 k0 f0, .slice d1 k1 f1, .slice d2 k2 f2, .slice d3 k3 f3, .slice d4 k4 f4] 28)).alloc (.cells #[.int .i64 0, .int .i64 0] 31) := ⟨_, rfl⟩
  have b3 : Below w2.heap.size w2 w3 := by rw [hw3]; exact ((Below.refl _ w2).alloc (Nat.le_refl _) _).alloc (by simp) _
  have m3 : w3.heap[w.heap.size]? = some (.cells #[.int .i64 0, .int .i64 0] 31 (0, 0)) := (b3.block _ hl2).trans m2
  have q3 := Qat.same _ _ w3 _ _ hQ b3.size (fun b _ hb => b3.block b hb)
  have bw3 := bw.trans (b3.mono bw.size)
  have hsh := Qsz p (Qsq hr) q3 ((Qa HE).1.later bw3) (((Qa HE).2.below bw3).more bw3.size)
  rw [hw3] at hsh
  have HR := hide (show formatP s.data.toList = ((showP p).1, (showP p).2, 0) by unfold formatP; rw [hr])
  have HB3 := hide (Ya bw3 (Ya m3 hw3))
  clear b1 m1 b2 m2 bw hl2 hw3 b3 m3 q3 bw3 hr hQ
  obtain ⟨t, ht⟩ : ∃ t, (showP p).1 = t := ⟨_, rfl⟩
  obtain ⟨e, he⟩ : ∃ e, (showP p).2 = e := ⟨_, rfl⟩
  rw [ht, he] at hsh
  have HT := hide (Ya ht he)
  clear ht he
  go_wp2_with fail
  refine hsh.mono ?_
  clear hsh
  rintro en w4 ⟨rfl, b4⟩
  obtain ⟨bw3, m3, hw3⟩ := Qa HB3
  rw [← hw3] at b4
  have m4 : w4.heap[w.heap.size]? = some (.cells #[.int .i64 0, .int .i64 0] 31 (0, 0)) := (b4.block _ (Qaf m3)).trans m3
  have HZ := hide (show ((w4.setCell ⟨w.heap.size, 0, none⟩ (.int .i64 e)).setCell ⟨w.heap.size, 1, none⟩ (.int .i64 0)).heap[w.heap.size]? = some (.cells #[.int .i64 e, .int .i64 0] 31 (0, 0)) from (Qac (Qac m4 0 _) 1 _).trans rfl)
  have HB4 := hide (bw3.trans (b4.mono bw3.size))
  obtain ⟨x0, x1, xf⟩ := cl2 m4
  clear bw3 m3 hw3 b4 m4 HB3
  go_wp2_with fail
  obtain ⟨z0, z1, _⟩ := cl2 (Qa HZ)
  refine bodyPost_ret (v := .tuple #[str t, .agg #[.int .i64 e, .int .i64 0]]) (by simp [results, Tryz.results10, go_sem, z0, z1]) rfl ?_
  rw [Qa HR, (Qa HT).1, (Qa HT).2]
  exact ⟨rfl, ((Qa HB4).setCell (p := ⟨w.heap.size, 0, none⟩) (Nat.le_refl _) _).setCell (p := ⟨w.heap.size, 1, none⟩) (Nat.le_refl _) _⟩
end
section
open Go.RowKit Go.Maps
theorem cellsTab : Tryz.prog.cellsOf 242 = 20 := by kernel_rfl
theorem cellsU64 : Tryz.prog.cellsOf 221 = 1 := by kernel_rfl
theorem powD : Rows.laid_internal_strconv_uint64pow10 = (Lib.tabData .u64 Lib.pow10Tab : DataW Unit) := by kernel_rfl
theorem Quu {W : World} (h : laidMetH Tryz.prog Rows.showAgainRow.laid W) : Lib.TabIs Tryz.prog W "internal/strconv.uint64pow10" .u64 Lib.pow10Tab := by
 rw [MakeChecks.laidMetH_plain _ _ _ (by kernel_rfl)] at h
 have h2 : laidMet Tryz.prog (("internal/strconv.uint64pow10", Rows.laid_internal_strconv_uint64pow10) :: [("strconv.ErrRange", Rows.laid_strconv_ErrRange), ("strconv.ErrSyntax", Rows.laid_strconv_ErrSyntax), ("vestry/lex.heads", Rows.laid_vestry_lex_heads), ("vestry/lex.signs", Rows.laid_vestry_lex_signs)]) W := laidMet.tail (laidMet.tail h)
 rw [powD] at h2
 exact Lib.tabIs_of_head (g := 5) (by kernel_rfl) (by kernel_rfl) Tryz.underlying242 Tryz.underlying221 cellsU64 cellsTab h2
theorem tbl_of {W : World} (h : laidMetH Tryz.prog Rows.showAgainRow.laid W) : Tbl W.heap.size W := by
 refine ⟨Quu h, fun g hg => ?_⟩
 have ht := Quu h
 unfold Lib.TabIs World.var? at ht
 rw [hg] at ht
 simp only [Option.bind_some] at ht
 rcases Nat.lt_or_ge g W.heap.size with hl | hl
 · exact hl
 rw [Array.getElem?_eq_none hl] at ht
 cases ht
def liveS : ByteArray := ⟨#[112, 40, 120, 41, 58, 45, 101, 40, 120, 44, 121, 41, 44, 120, 60, 49, 43, 50, 42, 121, 46]⟩
def liveT : Txt := [112, 40, 120, 41, 32, 58, 45, 32, 101, 40, 120, 44, 32, 121, 41, 44, 32, 120, 32, 60, 32, 49, 32, 43, 32, 40, 50, 32, 42, 32, 121, 41, 46, 10]
theorem Qjz : formatP liveS.data.toList = (liveT, 0, 0) := by kernel_rfl
theorem Qfj (w : World) (hE : Env w) (ht : Tbl w.heap.size w) : Calls Tryz.prog 6 #[] w fun en w' => en = .returned (.bool true) ∧ Below w.heap.size w w' := by
 have hf := Qej liveS (by decide) w hE ht
 rw [Qjz] at hf
 unfold liveS at hf
 go_enter Tryz.func6, Tryz.ntmps6
 go_wp2_with fail
 refine hf.mono ?_
 clear hf
 rintro en w2 ⟨rfl, b2⟩
 have HB := hide b2
 clear b2 hE ht
 simp only [liveT]
 go_wp2_with fail
 go_ret
 exact ⟨by simp [str], (Qa HB).alloc (Qa HB).size _⟩
theorem Qic (s : ByteArray) (hs : s.size ≤ 140737488355328) (w : World) (hE : Env w) (ht : Tbl w.heap.size w) : Calls Tryz.prog 4 #[.string s] w fun en w' => en = .returned (.bool true) ∧ Below w.heap.size w w' := by
 have hf := Qej s hs w hE ht
 obtain ⟨t, ht1⟩ : ∃ t, (formatP s.data.toList).1 = t := ⟨_, rfl⟩
 obtain ⟨fw, hfw⟩ : ∃ fw, (formatP s.data.toList).2.1 = fw := ⟨_, rfl⟩
 obtain ⟨fa, hfa⟩ : ∃ fa, (formatP s.data.toList).2.2 = fa := ⟨_, rfl⟩
 have hfe : formatP s.data.toList = (t, fw, fa) := by rw [← ht1, ← hfw, ← hfa]
 rw [hfe] at hf
 have HE := hide (Ya hE (Ya ht hfe))
 clear ht1 hfw hfa hfe hE ht
 go_enter Tryz.func4, Tryz.ntmps4
 go_wp2_with fail
 refine hf.mono ?_
 clear hf
 rintro en w2 ⟨rfl, b2⟩
 obtain ⟨hE, ht, hfe⟩ := Qa HE
 obtain ⟨w3, hw3⟩ : ∃ w3, w3 = w2.alloc (.cells #[.int .i64 fw, .int .i64 fa] 31) := ⟨_, rfl⟩
 have b3 : Below w.heap.size w w3 := by rw [hw3]; exact b2.alloc b2.size _
 by_cases h0 : fw = 0 ∧ fa = 0
 ·
  obtain ⟨rfl, rfl⟩ := h0
  have hag := Qiq hfe (fun h => Qdg h)
  have htl : t.length ≤ 65536 := by
   have h1 := hag
   unfold formatP parseP at h1
   cases hl : lexP t with
   | bad w1 a1 =>
    have h2 := Qjy t
    rw [hl] at h2
    rw [hl] at h1
    simp only [Prod.mk.injEq] at h1
    exact absurd h1.2.1 h2.1
   | ok toks => exact (Qpp hl).1
  have hf2 := Qej ⟨t.toArray⟩ (by simp [ByteArray.size]; omega) w3 (hE.later b3) ((ht.below b3).more b3.size)
  rw [show (⟨t.toArray⟩ : ByteArray).data.toList = t by simp, hag, show (Value.string ⟨t.toArray⟩) = str t from rfl, hw3] at hf2
  have HB := hide (Ya b3 hw3)
  clear hag htl b3 hw3 b2 hfe
  go_wp2_with fail
  refine hf2.mono ?_
  clear hf2
  rintro en w4 ⟨rfl, b4⟩
  obtain ⟨b3, hw3⟩ := Qa HB
  rw [← hw3] at b4
  have bw4 := b3.trans (b4.mono b3.size)
  have bw5 : Below w.heap.size w (w4.alloc (.cells #[.int .i64 0, .int .i64 0] 31)) := bw4.alloc bw4.size _
  have hal := Qfj _ (hE.later bw5) ((ht.below bw5).more bw5.size)
  have HB5 := hide bw5
  clear b3 hw3 b4 bw4 bw5 HB
  rw [show str t = Value.string ⟨t.toArray⟩ from rfl]
  go_wp2_with fail
  refine hal.mono ?_
  clear hal
  rintro en w6 ⟨rfl, b6⟩
  have HB6 := hide ((Qa HB5).trans (b6.mono (Qa HB5).size))
  clear b6
  go_wp2_with fail
  go_ret
  exact ⟨rfl, Qa HB6⟩
 have et : t = [] := by
  have := Qpg (s := s.data.toList) (by rw [hfe]; intro e; exact h0 (by simpa using e))
  rw [hfe] at this
  exact this
 subst et
 have hal : ∀ x : Int, Calls Tryz.prog 6 #[] (w2.alloc (.cells #[.int .i64 x, .int .i64 fa] 31)) fun en w' => en = .returned (.bool true) ∧ Below w.heap.size w w' := fun x => by
  have b4 : Below w.heap.size w (w2.alloc (.cells #[.int .i64 x, .int .i64 fa] 31)) := b2.alloc b2.size _
  exact (Qfj _ (hE.later b4) ((ht.below b4).more b4.size)).mono fun en w' h => ⟨h.1, b4.trans (h.2.mono b4.size)⟩
 have g1 : ((fw == 0) && (fa == 0)) = false := by
  rw [Bool.and_eq_false_iff]
  by_cases h1 : fw = 0
  · exact .inr (by simpa using fun e => h0 ⟨h1, e⟩)
  · exact .inl (by simpa using h1)
 rw [show str [] = Value.string ⟨#[]⟩ from rfl]
 clear b3 hw3 b2 hfe HE
 go_wp2_with fail
 all_goals
  refine (hal _).mono ?_
  clear hal
  rintro en w6 ⟨rfl, b6⟩
  have HB6 := hide b6
  clear b6
  go_wp2_with fail
  go_ret
  exact ⟨rfl, Qa HB6⟩
end
end Go.Proofs.YtccehgfecaamoaaGreatDoor
