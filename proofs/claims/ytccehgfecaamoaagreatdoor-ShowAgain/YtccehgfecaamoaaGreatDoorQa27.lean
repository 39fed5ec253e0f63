/- show's writer: atom, lit, clause. -/
import Derived.Test.YtccehgfecaamoaaGreatDoorQa25
import Derived.Test.YtccehgfecaamoaaGreatDoorQa26
set_option maxRecDepth 100000
set_option maxHeartbeats 32000000
namespace Go.Proofs.YtccehgfecaamoaaGreatDoor
section
open Go.RowKit Go.Maps
def amT (x : Atm) : Txt := (x.rel ++ [40]) ++ joinT [44, 32] (x.args.map exT) ++ [41]
def ltT (x : Lt) : Txt := if x.kind = 1 then amT x.atom else if x.kind = 2 then [33] ++ amT x.atom else if x.kind = 3 then exT x.l ++ ([32] ++ x.op ++ [32]) ++ exT x.r else []
def clT (x : Cls) : Txt := amT x.head ++ (if x.body = [] then [] else [32, 58, 45, 32] ++ joinT [44, 32] (x.body.map ltT)) ++ [46]
def ShA (x : Atm) : Prop := Sh x.rel ∧ ∀ e ∈ x.args, ShE e
def ShL (x : Lt) : Prop := ShA x.atom ∧ Sh x.op ∧ ShE x.l ∧ ShE x.r
def ShCl (x : Cls) : Prop := ShA x.head ∧ ∀ l ∈ x.body, ShL l
theorem Qeg {B b : Nat} {c : Txt} {lg : Bool} {w : World} (h : Wr B b c lg w) (x : Atm) (hx : ShA x) {aa : Option Addr} {ac : Nat} (hL : LsAt PE 5 (fun q => q < B) w (.slice aa x.args.length ac) x.args) :
  Calls Tryz.prog 69 #[.pointer (some ⟨b, 0, none⟩), .agg #[str x.rel, .slice aa x.args.length ac, .int .i64 x.at_]] w fun e w' => WrA B b c lg (amT x) w e w' := by
 have HL := hide hL
 have HX := hide hx
 clear hL hx
 have s1 := St.start (T := 61) h #[str x.rel, .slice aa x.args.length ac, .int .i64 x.at_] (by decide)
 obtain ⟨w1, hw1⟩ : ∃ w1, w1 = w.alloc (.cells #[str x.rel, .slice aa x.args.length ac, .int .i64 x.at_] 61) := ⟨_, rfl⟩
 rw [← hw1] at s1
 have xf : ∀ o, w1.frozen? ⟨w.heap.size, o, none⟩ = false := fun o => by simp [World.frozen?, s1.box]
 obtain ⟨x0, x1, x2⟩ : w1.cell? ⟨w.heap.size, 0, none⟩ = some (str x.rel) ∧ w1.cell? ⟨w.heap.size, 1, none⟩ = some (.slice aa x.args.length ac) ∧ w1.cell? ⟨w.heap.size, 2, none⟩ = some (.int .i64 x.at_) := ⟨(Qaa (s1).box 0).trans rfl, (Qaa (s1).box 1).trans rfl, (Qaa (s1).box 2).trans rfl⟩
 have HW1 := hide hw1
 have S1 := hide s1
 clear h hw1 s1
 go_enter Tryz.func69, Tryz.ntmps69
 go_upto_region 1 with fail
 rw [← Qa HW1]
 have hp := (Qa S1).put [x.rel, [40]] #[str x.rel, .string ⟨#[40]⟩] (n := 2) rfl rfl (by
  intro u hu
  simp only [List.mem_cons, List.not_mem_nil, or_false] at hu
  rcases hu with rfl | rfl
  · exact (Qa HX).1
  · show ([40] : Txt).length ≤ 140737488355328; decide) (by decide)
 go_wp2_with fail
 refine hp.mono ?_
 clear hp x0 x1 x2 xf
 rintro en w2 ⟨rfl, c2, l2, s2⟩
 obtain ⟨x0, x1, x2⟩ : w2.cell? ⟨w.heap.size, 0, none⟩ = some (str x.rel) ∧ w2.cell? ⟨w.heap.size, 1, none⟩ = some (.slice aa x.args.length ac) ∧ w2.cell? ⟨w.heap.size, 2, none⟩ = some (.int .i64 x.at_) := ⟨(Qaa (s2).box 0).trans rfl, (Qaa (s2).box 1).trans rfl, (Qaa (s2).box 2).trans rfl⟩
 have S2 := hide s2
 clear s2
 have hp := Qgv (Qa S2).wr ⟨#[44, 32]⟩ (by decide) ((Qa HL).same Qae (Qa S2).kept.below.size (fun q hq _ => (Qa S2).kept.below.block q hq)) exT (fun y hy => Qgd y ((Qa HX).2 y hy)) (Qa HL).len
 go_wp2_with fail
 refine hp.mono ?_
 clear hp x0 x1 x2
 intro en w3 ha
 obtain ⟨rfl, c3, l3, s3⟩ := (Qa S2).step ha
 obtain ⟨x0, x1, x2⟩ : w3.cell? ⟨w.heap.size, 0, none⟩ = some (str x.rel) ∧ w3.cell? ⟨w.heap.size, 1, none⟩ = some (.slice aa x.args.length ac) ∧ w3.cell? ⟨w.heap.size, 2, none⟩ = some (.int .i64 x.at_) := ⟨(Qaa (s3).box 0).trans rfl, (Qaa (s3).box 1).trans rfl, (Qaa (s3).box 2).trans rfl⟩
 have S3 := hide s3
 clear s3 ha
 have hp := (Qa S3).add ⟨#[41]⟩ (by decide)
 go_wp2_with fail
 refine hp.mono ?_
 clear hp x0 x1 x2
 rintro en w4 ⟨rfl, c4, l4, s4⟩
 obtain ⟨x0, x1, x2⟩ : w4.cell? ⟨w.heap.size, 0, none⟩ = some (str x.rel) ∧ w4.cell? ⟨w.heap.size, 1, none⟩ = some (.slice aa x.args.length ac) ∧ w4.cell? ⟨w.heap.size, 2, none⟩ = some (.int .i64 x.at_) := ⟨(Qaa (s4).box 0).trans rfl, (Qaa (s4).box 1).trans rfl, (Qaa (s4).box 2).trans rfl⟩
 have S4 := hide s4
 clear s4
 go_wp2_with fail
 go_end0
 exact (Qa S4).fin (by simp [amT])
theorem Qtn {B b : Nat} (x : Lt) (hx : ShL x) : PtM 71 B b PLt x (ltT x) := by
 intro w c lg cs hcs h
 obtain ⟨aa, an, ac, xa, xn, xc, ya, yn, yc, rfl, hA, hl, hr⟩ := hcs
 obtain ⟨_, _, e⟩ := hA.sl
 cases e
 have HA := hide hA
 have HL := hide hl
 have HR := hide hr
 have HX := hide hx
 clear hA hl hr hx
 obtain ⟨k, hk⟩ : ∃ k, x.kind = k := ⟨_, rfl⟩
 rw [hk]
 have HK := hide hk
 clear hk
 by_cases e1 : k = 1
 ·
  subst e1
  have s1 := St.start (T := 69) h #[.int .i64 1, str x.atom.rel, .slice aa x.atom.args.length ac, .int .i64 x.atom.at_, str x.op, .int .i64 x.l.kind, .int .i64 x.l.num, str x.l.txt, .slice xa xn xc, .int .i64 x.l.at_, .int .i64 x.r.kind, .int .i64 x.r.num, str x.r.txt, .slice ya yn yc, .int .i64 x.r.at_, .int .i64 x.at_] (by decide)
  obtain ⟨w1, hw1⟩ : ∃ w1, w1 = w.alloc (.cells #[.int .i64 1, str x.atom.rel, .slice aa x.atom.args.length ac, .int .i64 x.atom.at_, str x.op, .int .i64 x.l.kind, .int .i64 x.l.num, str x.l.txt, .slice xa xn xc, .int .i64 x.l.at_, .int .i64 x.r.kind, .int .i64 x.r.num, str x.r.txt, .slice ya yn yc, .int .i64 x.r.at_, .int .i64 x.at_] 69) := ⟨_, rfl⟩
  rw [← hw1] at s1
  have xf : ∀ o, w1.frozen? ⟨w.heap.size, o, none⟩ = false := fun o => by simp [World.frozen?, s1.box]
  obtain ⟨x0, x1, x2, x3, x4, x5, x6, x7, x8, x9, x10, x11, x12, x13, x14, x15⟩ : w1.cell? ⟨w.heap.size, 0, none⟩ = some (.int .i64 1) ∧ w1.cell? ⟨w.heap.size, 1, none⟩ = some (str x.atom.rel) ∧ w1.cell? ⟨w.heap.size, 2, none⟩ = some (.slice aa x.atom.args.length ac) ∧ w1.cell? ⟨w.heap.size, 3, none⟩ = some (.int .i64 x.atom.at_) ∧ w1.cell? ⟨w.heap.size, 4, none⟩ = some (str x.op) ∧ w1.cell? ⟨w.heap.size, 5, none⟩ = some (.int .i64 x.l.kind) ∧ w1.cell? ⟨w.heap.size, 6, none⟩ = some (.int .i64 x.l.num) ∧ w1.cell? ⟨w.heap.size, 7, none⟩ = some (str x.l.txt) ∧ w1.cell? ⟨w.heap.size, 8, none⟩ = some (.slice xa xn xc) ∧ w1.cell? ⟨w.heap.size, 9, none⟩ = some (.int .i64 x.l.at_) ∧ w1.cell? ⟨w.heap.size, 10, none⟩ = some (.int .i64 x.r.kind) ∧ w1.cell? ⟨w.heap.size, 11, none⟩ = some (.int .i64 x.r.num) ∧ w1.cell? ⟨w.heap.size, 12, none⟩ = some (str x.r.txt) ∧ w1.cell? ⟨w.heap.size, 13, none⟩ = some (.slice ya yn yc) ∧ w1.cell? ⟨w.heap.size, 14, none⟩ = some (.int .i64 x.r.at_) ∧ w1.cell? ⟨w.heap.size, 15, none⟩ = some (.int .i64 x.at_) := ⟨(Qaa (s1).box 0).trans rfl, (Qaa (s1).box 1).trans rfl, (Qaa (s1).box 2).trans rfl, (Qaa (s1).box 3).trans rfl, (Qaa (s1).box 4).trans rfl, (Qaa (s1).box 5).trans rfl, (Qaa (s1).box 6).trans rfl, (Qaa (s1).box 7).trans rfl, (Qaa (s1).box 8).trans rfl, (Qaa (s1).box 9).trans rfl, (Qaa (s1).box 10).trans rfl, (Qaa (s1).box 11).trans rfl, (Qaa (s1).box 12).trans rfl, (Qaa (s1).box 13).trans rfl, (Qaa (s1).box 14).trans rfl, (Qaa (s1).box 15).trans rfl⟩
  have HW1 := hide hw1
  have S1 := hide s1
  clear h hw1 s1
  go_enter Tryz.func71, Tryz.ntmps71
  go_upto_region 1 with fail
  rw [← Qa HW1]
  have hp := Qeg (Qa S1).wr x.atom (Qa HX).1 ((Qa HA).same Qae (Qa S1).kept.below.size (fun q hq _ => (Qa S1).kept.below.block q hq))
  go_wp2_with fail
  refine hp.mono ?_
  clear hp x0 x1 x2 x3 x4 x5 x6 x7 x8 x9 x10 x11 x12 x13 x14 x15 xf
  intro en w2 ha
  obtain ⟨rfl, c2, l2, s2⟩ := (Qa S1).step ha
  obtain ⟨x0, x1, x2, x3, x4, x5, x6, x7, x8, x9, x10, x11, x12, x13, x14, x15⟩ : w2.cell? ⟨w.heap.size, 0, none⟩ = some (.int .i64 1) ∧ w2.cell? ⟨w.heap.size, 1, none⟩ = some (str x.atom.rel) ∧ w2.cell? ⟨w.heap.size, 2, none⟩ = some (.slice aa x.atom.args.length ac) ∧ w2.cell? ⟨w.heap.size, 3, none⟩ = some (.int .i64 x.atom.at_) ∧ w2.cell? ⟨w.heap.size, 4, none⟩ = some (str x.op) ∧ w2.cell? ⟨w.heap.size, 5, none⟩ = some (.int .i64 x.l.kind) ∧ w2.cell? ⟨w.heap.size, 6, none⟩ = some (.int .i64 x.l.num) ∧ w2.cell? ⟨w.heap.size, 7, none⟩ = some (str x.l.txt) ∧ w2.cell? ⟨w.heap.size, 8, none⟩ = some (.slice xa xn xc) ∧ w2.cell? ⟨w.heap.size, 9, none⟩ = some (.int .i64 x.l.at_) ∧ w2.cell? ⟨w.heap.size, 10, none⟩ = some (.int .i64 x.r.kind) ∧ w2.cell? ⟨w.heap.size, 11, none⟩ = some (.int .i64 x.r.num) ∧ w2.cell? ⟨w.heap.size, 12, none⟩ = some (str x.r.txt) ∧ w2.cell? ⟨w.heap.size, 13, none⟩ = some (.slice ya yn yc) ∧ w2.cell? ⟨w.heap.size, 14, none⟩ = some (.int .i64 x.r.at_) ∧ w2.cell? ⟨w.heap.size, 15, none⟩ = some (.int .i64 x.at_) := ⟨(Qaa (s2).box 0).trans rfl, (Qaa (s2).box 1).trans rfl, (Qaa (s2).box 2).trans rfl, (Qaa (s2).box 3).trans rfl, (Qaa (s2).box 4).trans rfl, (Qaa (s2).box 5).trans rfl, (Qaa (s2).box 6).trans rfl, (Qaa (s2).box 7).trans rfl, (Qaa (s2).box 8).trans rfl, (Qaa (s2).box 9).trans rfl, (Qaa (s2).box 10).trans rfl, (Qaa (s2).box 11).trans rfl, (Qaa (s2).box 12).trans rfl, (Qaa (s2).box 13).trans rfl, (Qaa (s2).box 14).trans rfl, (Qaa (s2).box 15).trans rfl⟩
  have S2 := hide s2
  clear s2 ha
  go_wp2_with fail
  go_end0
  exact (Qa S2).fin (by simp [ltT, Qa HK])
 have g1 : (k == 1) = false := by simpa using e1
 by_cases e2 : k = 2
 ·
  subst e2
  have s1 := St.start (T := 69) h #[.int .i64 2, str x.atom.rel, .slice aa x.atom.args.length ac, .int .i64 x.atom.at_, str x.op, .int .i64 x.l.kind, .int .i64 x.l.num, str x.l.txt, .slice xa xn xc, .int .i64 x.l.at_, .int .i64 x.r.kind, .int .i64 x.r.num, str x.r.txt, .slice ya yn yc, .int .i64 x.r.at_, .int .i64 x.at_] (by decide)
  obtain ⟨w1, hw1⟩ : ∃ w1, w1 = w.alloc (.cells #[.int .i64 2, str x.atom.rel, .slice aa x.atom.args.length ac, .int .i64 x.atom.at_, str x.op, .int .i64 x.l.kind, .int .i64 x.l.num, str x.l.txt, .slice xa xn xc, .int .i64 x.l.at_, .int .i64 x.r.kind, .int .i64 x.r.num, str x.r.txt, .slice ya yn yc, .int .i64 x.r.at_, .int .i64 x.at_] 69) := ⟨_, rfl⟩
  rw [← hw1] at s1
  have xf : ∀ o, w1.frozen? ⟨w.heap.size, o, none⟩ = false := fun o => by simp [World.frozen?, s1.box]
  obtain ⟨x0, x1, x2, x3, x4, x5, x6, x7, x8, x9, x10, x11, x12, x13, x14, x15⟩ : w1.cell? ⟨w.heap.size, 0, none⟩ = some (.int .i64 2) ∧ w1.cell? ⟨w.heap.size, 1, none⟩ = some (str x.atom.rel) ∧ w1.cell? ⟨w.heap.size, 2, none⟩ = some (.slice aa x.atom.args.length ac) ∧ w1.cell? ⟨w.heap.size, 3, none⟩ = some (.int .i64 x.atom.at_) ∧ w1.cell? ⟨w.heap.size, 4, none⟩ = some (str x.op) ∧ w1.cell? ⟨w.heap.size, 5, none⟩ = some (.int .i64 x.l.kind) ∧ w1.cell? ⟨w.heap.size, 6, none⟩ = some (.int .i64 x.l.num) ∧ w1.cell? ⟨w.heap.size, 7, none⟩ = some (str x.l.txt) ∧ w1.cell? ⟨w.heap.size, 8, none⟩ = some (.slice xa xn xc) ∧ w1.cell? ⟨w.heap.size, 9, none⟩ = some (.int .i64 x.l.at_) ∧ w1.cell? ⟨w.heap.size, 10, none⟩ = some (.int .i64 x.r.kind) ∧ w1.cell? ⟨w.heap.size, 11, none⟩ = some (.int .i64 x.r.num) ∧ w1.cell? ⟨w.heap.size, 12, none⟩ = some (str x.r.txt) ∧ w1.cell? ⟨w.heap.size, 13, none⟩ = some (.slice ya yn yc) ∧ w1.cell? ⟨w.heap.size, 14, none⟩ = some (.int .i64 x.r.at_) ∧ w1.cell? ⟨w.heap.size, 15, none⟩ = some (.int .i64 x.at_) := ⟨(Qaa (s1).box 0).trans rfl, (Qaa (s1).box 1).trans rfl, (Qaa (s1).box 2).trans rfl, (Qaa (s1).box 3).trans rfl, (Qaa (s1).box 4).trans rfl, (Qaa (s1).box 5).trans rfl, (Qaa (s1).box 6).trans rfl, (Qaa (s1).box 7).trans rfl, (Qaa (s1).box 8).trans rfl, (Qaa (s1).box 9).trans rfl, (Qaa (s1).box 10).trans rfl, (Qaa (s1).box 11).trans rfl, (Qaa (s1).box 12).trans rfl, (Qaa (s1).box 13).trans rfl, (Qaa (s1).box 14).trans rfl, (Qaa (s1).box 15).trans rfl⟩
  have HW1 := hide hw1
  have S1 := hide s1
  clear h hw1 s1
  go_enter Tryz.func71, Tryz.ntmps71
  go_upto_region 1 with fail
  rw [← Qa HW1]
  have hp := (Qa S1).add ⟨#[33]⟩ (by decide)
  go_wp2_with fail
  refine hp.mono ?_
  clear hp x0 x1 x2 x3 x4 x5 x6 x7 x8 x9 x10 x11 x12 x13 x14 x15 xf
  rintro en w2 ⟨rfl, c2, l2, s2⟩
  obtain ⟨x0, x1, x2, x3, x4, x5, x6, x7, x8, x9, x10, x11, x12, x13, x14, x15⟩ : w2.cell? ⟨w.heap.size, 0, none⟩ = some (.int .i64 2) ∧ w2.cell? ⟨w.heap.size, 1, none⟩ = some (str x.atom.rel) ∧ w2.cell? ⟨w.heap.size, 2, none⟩ = some (.slice aa x.atom.args.length ac) ∧ w2.cell? ⟨w.heap.size, 3, none⟩ = some (.int .i64 x.atom.at_) ∧ w2.cell? ⟨w.heap.size, 4, none⟩ = some (str x.op) ∧ w2.cell? ⟨w.heap.size, 5, none⟩ = some (.int .i64 x.l.kind) ∧ w2.cell? ⟨w.heap.size, 6, none⟩ = some (.int .i64 x.l.num) ∧ w2.cell? ⟨w.heap.size, 7, none⟩ = some (str x.l.txt) ∧ w2.cell? ⟨w.heap.size, 8, none⟩ = some (.slice xa xn xc) ∧ w2.cell? ⟨w.heap.size, 9, none⟩ = some (.int .i64 x.l.at_) ∧ w2.cell? ⟨w.heap.size, 10, none⟩ = some (.int .i64 x.r.kind) ∧ w2.cell? ⟨w.heap.size, 11, none⟩ = some (.int .i64 x.r.num) ∧ w2.cell? ⟨w.heap.size, 12, none⟩ = some (str x.r.txt) ∧ w2.cell? ⟨w.heap.size, 13, none⟩ = some (.slice ya yn yc) ∧ w2.cell? ⟨w.heap.size, 14, none⟩ = some (.int .i64 x.r.at_) ∧ w2.cell? ⟨w.heap.size, 15, none⟩ = some (.int .i64 x.at_) := ⟨(Qaa (s2).box 0).trans rfl, (Qaa (s2).box 1).trans rfl, (Qaa (s2).box 2).trans rfl, (Qaa (s2).box 3).trans rfl, (Qaa (s2).box 4).trans rfl, (Qaa (s2).box 5).trans rfl, (Qaa (s2).box 6).trans rfl, (Qaa (s2).box 7).trans rfl, (Qaa (s2).box 8).trans rfl, (Qaa (s2).box 9).trans rfl, (Qaa (s2).box 10).trans rfl, (Qaa (s2).box 11).trans rfl, (Qaa (s2).box 12).trans rfl, (Qaa (s2).box 13).trans rfl, (Qaa (s2).box 14).trans rfl, (Qaa (s2).box 15).trans rfl⟩
  have S2 := hide s2
  clear s2
  have hp := Qeg (Qa S2).wr x.atom (Qa HX).1 ((Qa HA).same Qae (Qa S2).kept.below.size (fun q hq _ => (Qa S2).kept.below.block q hq))
  go_wp2_with fail
  refine hp.mono ?_
  clear hp x0 x1 x2 x3 x4 x5 x6 x7 x8 x9 x10 x11 x12 x13 x14 x15
  intro en w3 ha
  obtain ⟨rfl, c3, l3, s3⟩ := (Qa S2).step ha
  obtain ⟨x0, x1, x2, x3, x4, x5, x6, x7, x8, x9, x10, x11, x12, x13, x14, x15⟩ : w3.cell? ⟨w.heap.size, 0, none⟩ = some (.int .i64 2) ∧ w3.cell? ⟨w.heap.size, 1, none⟩ = some (str x.atom.rel) ∧ w3.cell? ⟨w.heap.size, 2, none⟩ = some (.slice aa x.atom.args.length ac) ∧ w3.cell? ⟨w.heap.size, 3, none⟩ = some (.int .i64 x.atom.at_) ∧ w3.cell? ⟨w.heap.size, 4, none⟩ = some (str x.op) ∧ w3.cell? ⟨w.heap.size, 5, none⟩ = some (.int .i64 x.l.kind) ∧ w3.cell? ⟨w.heap.size, 6, none⟩ = some (.int .i64 x.l.num) ∧ w3.cell? ⟨w.heap.size, 7, none⟩ = some (str x.l.txt) ∧ w3.cell? ⟨w.heap.size, 8, none⟩ = some (.slice xa xn xc) ∧ w3.cell? ⟨w.heap.size, 9, none⟩ = some (.int .i64 x.l.at_) ∧ w3.cell? ⟨w.heap.size, 10, none⟩ = some (.int .i64 x.r.kind) ∧ w3.cell? ⟨w.heap.size, 11, none⟩ = some (.int .i64 x.r.num) ∧ w3.cell? ⟨w.heap.size, 12, none⟩ = some (str x.r.txt) ∧ w3.cell? ⟨w.heap.size, 13, none⟩ = some (.slice ya yn yc) ∧ w3.cell? ⟨w.heap.size, 14, none⟩ = some (.int .i64 x.r.at_) ∧ w3.cell? ⟨w.heap.size, 15, none⟩ = some (.int .i64 x.at_) := ⟨(Qaa (s3).box 0).trans rfl, (Qaa (s3).box 1).trans rfl, (Qaa (s3).box 2).trans rfl, (Qaa (s3).box 3).trans rfl, (Qaa (s3).box 4).trans rfl, (Qaa (s3).box 5).trans rfl, (Qaa (s3).box 6).trans rfl, (Qaa (s3).box 7).trans rfl, (Qaa (s3).box 8).trans rfl, (Qaa (s3).box 9).trans rfl, (Qaa (s3).box 10).trans rfl, (Qaa (s3).box 11).trans rfl, (Qaa (s3).box 12).trans rfl, (Qaa (s3).box 13).trans rfl, (Qaa (s3).box 14).trans rfl, (Qaa (s3).box 15).trans rfl⟩
  have S3 := hide s3
  clear s3 ha
  go_wp2_with fail
  go_end0
  exact (Qa S3).fin (by simp [ltT, Qa HK])
 have g2 : (k == 2) = false := by simpa using e2
 by_cases e3 : k = 3
 ·
  subst e3
  have s1 := St.start (T := 69) h #[.int .i64 3, str x.atom.rel, .slice aa x.atom.args.length ac, .int .i64 x.atom.at_, str x.op, .int .i64 x.l.kind, .int .i64 x.l.num, str x.l.txt, .slice xa xn xc, .int .i64 x.l.at_, .int .i64 x.r.kind, .int .i64 x.r.num, str x.r.txt, .slice ya yn yc, .int .i64 x.r.at_, .int .i64 x.at_] (by decide)
  obtain ⟨w1, hw1⟩ : ∃ w1, w1 = w.alloc (.cells #[.int .i64 3, str x.atom.rel, .slice aa x.atom.args.length ac, .int .i64 x.atom.at_, str x.op, .int .i64 x.l.kind, .int .i64 x.l.num, str x.l.txt, .slice xa xn xc, .int .i64 x.l.at_, .int .i64 x.r.kind, .int .i64 x.r.num, str x.r.txt, .slice ya yn yc, .int .i64 x.r.at_, .int .i64 x.at_] 69) := ⟨_, rfl⟩
  rw [← hw1] at s1
  have xf : ∀ o, w1.frozen? ⟨w.heap.size, o, none⟩ = false := fun o => by simp [World.frozen?, s1.box]
  obtain ⟨x0, x1, x2, x3, x4, x5, x6, x7, x8, x9, x10, x11, x12, x13, x14, x15⟩ : w1.cell? ⟨w.heap.size, 0, none⟩ = some (.int .i64 3) ∧ w1.cell? ⟨w.heap.size, 1, none⟩ = some (str x.atom.rel) ∧ w1.cell? ⟨w.heap.size, 2, none⟩ = some (.slice aa x.atom.args.length ac) ∧ w1.cell? ⟨w.heap.size, 3, none⟩ = some (.int .i64 x.atom.at_) ∧ w1.cell? ⟨w.heap.size, 4, none⟩ = some (str x.op) ∧ w1.cell? ⟨w.heap.size, 5, none⟩ = some (.int .i64 x.l.kind) ∧ w1.cell? ⟨w.heap.size, 6, none⟩ = some (.int .i64 x.l.num) ∧ w1.cell? ⟨w.heap.size, 7, none⟩ = some (str x.l.txt) ∧ w1.cell? ⟨w.heap.size, 8, none⟩ = some (.slice xa xn xc) ∧ w1.cell? ⟨w.heap.size, 9, none⟩ = some (.int .i64 x.l.at_) ∧ w1.cell? ⟨w.heap.size, 10, none⟩ = some (.int .i64 x.r.kind) ∧ w1.cell? ⟨w.heap.size, 11, none⟩ = some (.int .i64 x.r.num) ∧ w1.cell? ⟨w.heap.size, 12, none⟩ = some (str x.r.txt) ∧ w1.cell? ⟨w.heap.size, 13, none⟩ = some (.slice ya yn yc) ∧ w1.cell? ⟨w.heap.size, 14, none⟩ = some (.int .i64 x.r.at_) ∧ w1.cell? ⟨w.heap.size, 15, none⟩ = some (.int .i64 x.at_) := ⟨(Qaa (s1).box 0).trans rfl, (Qaa (s1).box 1).trans rfl, (Qaa (s1).box 2).trans rfl, (Qaa (s1).box 3).trans rfl, (Qaa (s1).box 4).trans rfl, (Qaa (s1).box 5).trans rfl, (Qaa (s1).box 6).trans rfl, (Qaa (s1).box 7).trans rfl, (Qaa (s1).box 8).trans rfl, (Qaa (s1).box 9).trans rfl, (Qaa (s1).box 10).trans rfl, (Qaa (s1).box 11).trans rfl, (Qaa (s1).box 12).trans rfl, (Qaa (s1).box 13).trans rfl, (Qaa (s1).box 14).trans rfl, (Qaa (s1).box 15).trans rfl⟩
  have HW1 := hide hw1
  have S1 := hide s1
  clear h hw1 s1
  go_enter Tryz.func71, Tryz.ntmps71
  go_upto_region 1 with fail
  rw [← Qa HW1]
  have hp := Qgd x.l (Qa HX).2.2.1 _ _ _ [.int .i64 x.l.kind, .int .i64 x.l.num, str x.l.txt, .slice xa xn xc, .int .i64 x.l.at_] (Qae.same _ _ _ _ _ (Qa HL) (Qa S1).kept.below.size (fun q hq _ => (Qa S1).kept.below.block q hq)) (Qa S1).wr
  go_wp2_with fail
  refine hp.mono ?_
  clear hp x0 x1 x2 x3 x4 x5 x6 x7 x8 x9 x10 x11 x12 x13 x14 x15 xf
  intro en w2 ha
  obtain ⟨rfl, c2, l2, s2⟩ := (Qa S1).step ha
  obtain ⟨x0, x1, x2, x3, x4, x5, x6, x7, x8, x9, x10, x11, x12, x13, x14, x15⟩ : w2.cell? ⟨w.heap.size, 0, none⟩ = some (.int .i64 3) ∧ w2.cell? ⟨w.heap.size, 1, none⟩ = some (str x.atom.rel) ∧ w2.cell? ⟨w.heap.size, 2, none⟩ = some (.slice aa x.atom.args.length ac) ∧ w2.cell? ⟨w.heap.size, 3, none⟩ = some (.int .i64 x.atom.at_) ∧ w2.cell? ⟨w.heap.size, 4, none⟩ = some (str x.op) ∧ w2.cell? ⟨w.heap.size, 5, none⟩ = some (.int .i64 x.l.kind) ∧ w2.cell? ⟨w.heap.size, 6, none⟩ = some (.int .i64 x.l.num) ∧ w2.cell? ⟨w.heap.size, 7, none⟩ = some (str x.l.txt) ∧ w2.cell? ⟨w.heap.size, 8, none⟩ = some (.slice xa xn xc) ∧ w2.cell? ⟨w.heap.size, 9, none⟩ = some (.int .i64 x.l.at_) ∧ w2.cell? ⟨w.heap.size, 10, none⟩ = some (.int .i64 x.r.kind) ∧ w2.cell? ⟨w.heap.size, 11, none⟩ = some (.int .i64 x.r.num) ∧ w2.cell? ⟨w.heap.size, 12, none⟩ = some (str x.r.txt) ∧ w2.cell? ⟨w.heap.size, 13, none⟩ = some (.slice ya yn yc) ∧ w2.cell? ⟨w.heap.size, 14, none⟩ = some (.int .i64 x.r.at_) ∧ w2.cell? ⟨w.heap.size, 15, none⟩ = some (.int .i64 x.at_) := ⟨(Qaa (s2).box 0).trans rfl, (Qaa (s2).box 1).trans rfl, (Qaa (s2).box 2).trans rfl, (Qaa (s2).box 3).trans rfl, (Qaa (s2).box 4).trans rfl, (Qaa (s2).box 5).trans rfl, (Qaa (s2).box 6).trans rfl, (Qaa (s2).box 7).trans rfl, (Qaa (s2).box 8).trans rfl, (Qaa (s2).box 9).trans rfl, (Qaa (s2).box 10).trans rfl, (Qaa (s2).box 11).trans rfl, (Qaa (s2).box 12).trans rfl, (Qaa (s2).box 13).trans rfl, (Qaa (s2).box 14).trans rfl, (Qaa (s2).box 15).trans rfl⟩
  have S2 := hide s2
  clear s2 ha
  have hp := (Qa S2).put [[32], x.op, [32]] #[.string ⟨#[32]⟩, str x.op, .string ⟨#[32]⟩] (n := 3) rfl rfl (by
   intro u hu
   simp only [List.mem_cons, List.not_mem_nil, or_false] at hu
   rcases hu with rfl | rfl | rfl
   · show ([32] : Txt).length ≤ 140737488355328; decide
   · exact (Qa HX).2.1
   · show ([32] : Txt).length ≤ 140737488355328; decide) (by decide)
  go_wp2_with fail
  refine hp.mono ?_
  clear hp x0 x1 x2 x3 x4 x5 x6 x7 x8 x9 x10 x11 x12 x13 x14 x15
  rintro en w3 ⟨rfl, c3, l3, s3⟩
  obtain ⟨x0, x1, x2, x3, x4, x5, x6, x7, x8, x9, x10, x11, x12, x13, x14, x15⟩ : w3.cell? ⟨w.heap.size, 0, none⟩ = some (.int .i64 3) ∧ w3.cell? ⟨w.heap.size, 1, none⟩ = some (str x.atom.rel) ∧ w3.cell? ⟨w.heap.size, 2, none⟩ = some (.slice aa x.atom.args.length ac) ∧ w3.cell? ⟨w.heap.size, 3, none⟩ = some (.int .i64 x.atom.at_) ∧ w3.cell? ⟨w.heap.size, 4, none⟩ = some (str x.op) ∧ w3.cell? ⟨w.heap.size, 5, none⟩ = some (.int .i64 x.l.kind) ∧ w3.cell? ⟨w.heap.size, 6, none⟩ = some (.int .i64 x.l.num) ∧ w3.cell? ⟨w.heap.size, 7, none⟩ = some (str x.l.txt) ∧ w3.cell? ⟨w.heap.size, 8, none⟩ = some (.slice xa xn xc) ∧ w3.cell? ⟨w.heap.size, 9, none⟩ = some (.int .i64 x.l.at_) ∧ w3.cell? ⟨w.heap.size, 10, none⟩ = some (.int .i64 x.r.kind) ∧ w3.cell? ⟨w.heap.size, 11, none⟩ = some (.int .i64 x.r.num) ∧ w3.cell? ⟨w.heap.size, 12, none⟩ = some (str x.r.txt) ∧ w3.cell? ⟨w.heap.size, 13, none⟩ = some (.slice ya yn yc) ∧ w3.cell? ⟨w.heap.size, 14, none⟩ = some (.int .i64 x.r.at_) ∧ w3.cell? ⟨w.heap.size, 15, none⟩ = some (.int .i64 x.at_) := ⟨(Qaa (s3).box 0).trans rfl, (Qaa (s3).box 1).trans rfl, (Qaa (s3).box 2).trans rfl, (Qaa (s3).box 3).trans rfl, (Qaa (s3).box 4).trans rfl, (Qaa (s3).box 5).trans rfl, (Qaa (s3).box 6).trans rfl, (Qaa (s3).box 7).trans rfl, (Qaa (s3).box 8).trans rfl, (Qaa (s3).box 9).trans rfl, (Qaa (s3).box 10).trans rfl, (Qaa (s3).box 11).trans rfl, (Qaa (s3).box 12).trans rfl, (Qaa (s3).box 13).trans rfl, (Qaa (s3).box 14).trans rfl, (Qaa (s3).box 15).trans rfl⟩
  have S3 := hide s3
  clear s3
  have hp := Qgd x.r (Qa HX).2.2.2 _ _ _ [.int .i64 x.r.kind, .int .i64 x.r.num, str x.r.txt, .slice ya yn yc, .int .i64 x.r.at_] (Qae.same _ _ _ _ _ (Qa HR) (Qa S3).kept.below.size (fun q hq _ => (Qa S3).kept.below.block q hq)) (Qa S3).wr
  go_wp2_with fail
  refine hp.mono ?_
  clear hp x0 x1 x2 x3 x4 x5 x6 x7 x8 x9 x10 x11 x12 x13 x14 x15
  intro en w4 ha
  obtain ⟨rfl, c4, l4, s4⟩ := (Qa S3).step ha
  obtain ⟨x0, x1, x2, x3, x4, x5, x6, x7, x8, x9, x10, x11, x12, x13, x14, x15⟩ : w4.cell? ⟨w.heap.size, 0, none⟩ = some (.int .i64 3) ∧ w4.cell? ⟨w.heap.size, 1, none⟩ = some (str x.atom.rel) ∧ w4.cell? ⟨w.heap.size, 2, none⟩ = some (.slice aa x.atom.args.length ac) ∧ w4.cell? ⟨w.heap.size, 3, none⟩ = some (.int .i64 x.atom.at_) ∧ w4.cell? ⟨w.heap.size, 4, none⟩ = some (str x.op) ∧ w4.cell? ⟨w.heap.size, 5, none⟩ = some (.int .i64 x.l.kind) ∧ w4.cell? ⟨w.heap.size, 6, none⟩ = some (.int .i64 x.l.num) ∧ w4.cell? ⟨w.heap.size, 7, none⟩ = some (str x.l.txt) ∧ w4.cell? ⟨w.heap.size, 8, none⟩ = some (.slice xa xn xc) ∧ w4.cell? ⟨w.heap.size, 9, none⟩ = some (.int .i64 x.l.at_) ∧ w4.cell? ⟨w.heap.size, 10, none⟩ = some (.int .i64 x.r.kind) ∧ w4.cell? ⟨w.heap.size, 11, none⟩ = some (.int .i64 x.r.num) ∧ w4.cell? ⟨w.heap.size, 12, none⟩ = some (str x.r.txt) ∧ w4.cell? ⟨w.heap.size, 13, none⟩ = some (.slice ya yn yc) ∧ w4.cell? ⟨w.heap.size, 14, none⟩ = some (.int .i64 x.r.at_) ∧ w4.cell? ⟨w.heap.size, 15, none⟩ = some (.int .i64 x.at_) := ⟨(Qaa (s4).box 0).trans rfl, (Qaa (s4).box 1).trans rfl, (Qaa (s4).box 2).trans rfl, (Qaa (s4).box 3).trans rfl, (Qaa (s4).box 4).trans rfl, (Qaa (s4).box 5).trans rfl, (Qaa (s4).box 6).trans rfl, (Qaa (s4).box 7).trans rfl, (Qaa (s4).box 8).trans rfl, (Qaa (s4).box 9).trans rfl, (Qaa (s4).box 10).trans rfl, (Qaa (s4).box 11).trans rfl, (Qaa (s4).box 12).trans rfl, (Qaa (s4).box 13).trans rfl, (Qaa (s4).box 14).trans rfl, (Qaa (s4).box 15).trans rfl⟩
  have S4 := hide s4
  clear s4 ha
  go_wp2_with fail
  go_end0
  exact (Qa S4).fin (by simp [ltT, Qa HK])
 have g3 : (k == 3) = false := by simpa using e3
 have HE := hide (Ya e1 (Ya e2 e3))
 clear e1 e2 e3
 have s1 := St.start (T := 69) h #[.int .i64 k, str x.atom.rel, .slice aa x.atom.args.length ac, .int .i64 x.atom.at_, str x.op, .int .i64 x.l.kind, .int .i64 x.l.num, str x.l.txt, .slice xa xn xc, .int .i64 x.l.at_, .int .i64 x.r.kind, .int .i64 x.r.num, str x.r.txt, .slice ya yn yc, .int .i64 x.r.at_, .int .i64 x.at_] (by decide)
 obtain ⟨w1, hw1⟩ : ∃ w1, w1 = w.alloc (.cells #[.int .i64 k, str x.atom.rel, .slice aa x.atom.args.length ac, .int .i64 x.atom.at_, str x.op, .int .i64 x.l.kind, .int .i64 x.l.num, str x.l.txt, .slice xa xn xc, .int .i64 x.l.at_, .int .i64 x.r.kind, .int .i64 x.r.num, str x.r.txt, .slice ya yn yc, .int .i64 x.r.at_, .int .i64 x.at_] 69) := ⟨_, rfl⟩
 rw [← hw1] at s1
 have xf : ∀ o, w1.frozen? ⟨w.heap.size, o, none⟩ = false := fun o => by simp [World.frozen?, s1.box]
 obtain ⟨x0, x1, x2, x3, x4, x5, x6, x7, x8, x9, x10, x11, x12, x13, x14, x15⟩ : w1.cell? ⟨w.heap.size, 0, none⟩ = some (.int .i64 k) ∧ w1.cell? ⟨w.heap.size, 1, none⟩ = some (str x.atom.rel) ∧ w1.cell? ⟨w.heap.size, 2, none⟩ = some (.slice aa x.atom.args.length ac) ∧ w1.cell? ⟨w.heap.size, 3, none⟩ = some (.int .i64 x.atom.at_) ∧ w1.cell? ⟨w.heap.size, 4, none⟩ = some (str x.op) ∧ w1.cell? ⟨w.heap.size, 5, none⟩ = some (.int .i64 x.l.kind) ∧ w1.cell? ⟨w.heap.size, 6, none⟩ = some (.int .i64 x.l.num) ∧ w1.cell? ⟨w.heap.size, 7, none⟩ = some (str x.l.txt) ∧ w1.cell? ⟨w.heap.size, 8, none⟩ = some (.slice xa xn xc) ∧ w1.cell? ⟨w.heap.size, 9, none⟩ = some (.int .i64 x.l.at_) ∧ w1.cell? ⟨w.heap.size, 10, none⟩ = some (.int .i64 x.r.kind) ∧ w1.cell? ⟨w.heap.size, 11, none⟩ = some (.int .i64 x.r.num) ∧ w1.cell? ⟨w.heap.size, 12, none⟩ = some (str x.r.txt) ∧ w1.cell? ⟨w.heap.size, 13, none⟩ = some (.slice ya yn yc) ∧ w1.cell? ⟨w.heap.size, 14, none⟩ = some (.int .i64 x.r.at_) ∧ w1.cell? ⟨w.heap.size, 15, none⟩ = some (.int .i64 x.at_) := ⟨(Qaa (s1).box 0).trans rfl, (Qaa (s1).box 1).trans rfl, (Qaa (s1).box 2).trans rfl, (Qaa (s1).box 3).trans rfl, (Qaa (s1).box 4).trans rfl, (Qaa (s1).box 5).trans rfl, (Qaa (s1).box 6).trans rfl, (Qaa (s1).box 7).trans rfl, (Qaa (s1).box 8).trans rfl, (Qaa (s1).box 9).trans rfl, (Qaa (s1).box 10).trans rfl, (Qaa (s1).box 11).trans rfl, (Qaa (s1).box 12).trans rfl, (Qaa (s1).box 13).trans rfl, (Qaa (s1).box 14).trans rfl, (Qaa (s1).box 15).trans rfl⟩
 have HW1 := hide hw1
 have S1 := hide s1
 clear h hw1 s1
 go_enter Tryz.func71, Tryz.ntmps71
 go_upto_region 1 with fail
 rw [← Qa HW1]
 go_wp2_with fail
 go_end0
 obtain ⟨e1, e2, e3⟩ := Qa HE
 exact (Qa S1).fin (by simp [ltT, Qa HK, e1, e2, e3])
theorem Qkm {B b : Nat} (x : Cls) (hx : ShCl x) : PtM 35 B b PCl x (clT x) := by
 intro w c lg cs hcs h
 obtain ⟨aa, an, ac, ba, bn, bc, rfl, hA, hB⟩ := hcs
 obtain ⟨_, _, e⟩ := hA.sl
 cases e
 obtain ⟨_, _, e⟩ := hB.sl
 cases e
 obtain ⟨bn, hbn⟩ : ∃ bn, x.body.length = bn := ⟨_, rfl⟩
 have HA := hide hA
 have HB := hide hB
 have HX := hide hx
 have HN := hide hbn
 rw [hbn]
 clear hA hB hx hbn
 have s1 := St.start (T := 64) h #[str x.head.rel, .slice aa x.head.args.length ac, .int .i64 x.head.at_, .slice ba bn bc, .int .i64 x.at_] (by decide)
 obtain ⟨w1, hw1⟩ : ∃ w1, w1 = w.alloc (.cells #[str x.head.rel, .slice aa x.head.args.length ac, .int .i64 x.head.at_, .slice ba bn bc, .int .i64 x.at_] 64) := ⟨_, rfl⟩
 rw [← hw1] at s1
 have xf : ∀ o, w1.frozen? ⟨w.heap.size, o, none⟩ = false := fun o => by simp [World.frozen?, s1.box]
 obtain ⟨x0, x1, x2, x3, x4⟩ : w1.cell? ⟨w.heap.size, 0, none⟩ = some (str x.head.rel) ∧ w1.cell? ⟨w.heap.size, 1, none⟩ = some (.slice aa x.head.args.length ac) ∧ w1.cell? ⟨w.heap.size, 2, none⟩ = some (.int .i64 x.head.at_) ∧ w1.cell? ⟨w.heap.size, 3, none⟩ = some (.slice ba bn bc) ∧ w1.cell? ⟨w.heap.size, 4, none⟩ = some (.int .i64 x.at_) := ⟨(Qaa (s1).box 0).trans rfl, (Qaa (s1).box 1).trans rfl, (Qaa (s1).box 2).trans rfl, (Qaa (s1).box 3).trans rfl, (Qaa (s1).box 4).trans rfl⟩
 have HW1 := hide hw1
 have S1 := hide s1
 clear h hw1 s1
 by_cases h0 : bn = 0
 ·
  subst h0
  go_enter Tryz.func35, Tryz.ntmps35
  go_upto_region 1 with fail
  rw [← Qa HW1]
  have hp := Qeg (Qa S1).wr x.head (Qa HX).1 ((Qa HA).same Qae (Qa S1).kept.below.size (fun q hq _ => (Qa S1).kept.below.block q hq))
  go_wp2_with fail
  refine hp.mono ?_
  clear hp x0 x1 x2 x3 x4 xf
  intro en w2 ha
  obtain ⟨rfl, c2, l2, s2⟩ := (Qa S1).step ha
  obtain ⟨x0, x1, x2, x3, x4⟩ : w2.cell? ⟨w.heap.size, 0, none⟩ = some (str x.head.rel) ∧ w2.cell? ⟨w.heap.size, 1, none⟩ = some (.slice aa x.head.args.length ac) ∧ w2.cell? ⟨w.heap.size, 2, none⟩ = some (.int .i64 x.head.at_) ∧ w2.cell? ⟨w.heap.size, 3, none⟩ = some (.slice ba 0 bc) ∧ w2.cell? ⟨w.heap.size, 4, none⟩ = some (.int .i64 x.at_) := ⟨(Qaa (s2).box 0).trans rfl, (Qaa (s2).box 1).trans rfl, (Qaa (s2).box 2).trans rfl, (Qaa (s2).box 3).trans rfl, (Qaa (s2).box 4).trans rfl⟩
  have S2 := hide s2
  clear s2 ha
  have hp := (Qa S2).add ⟨#[46]⟩ (by decide)
  go_wp2_with fail
  refine hp.mono ?_
  clear hp x0 x1 x2 x3 x4
  rintro en w3 ⟨rfl, c3, l3, s3⟩
  obtain ⟨x0, x1, x2, x3, x4⟩ : w3.cell? ⟨w.heap.size, 0, none⟩ = some (str x.head.rel) ∧ w3.cell? ⟨w.heap.size, 1, none⟩ = some (.slice aa x.head.args.length ac) ∧ w3.cell? ⟨w.heap.size, 2, none⟩ = some (.int .i64 x.head.at_) ∧ w3.cell? ⟨w.heap.size, 3, none⟩ = some (.slice ba 0 bc) ∧ w3.cell? ⟨w.heap.size, 4, none⟩ = some (.int .i64 x.at_) := ⟨(Qaa (s3).box 0).trans rfl, (Qaa (s3).box 1).trans rfl, (Qaa (s3).box 2).trans rfl, (Qaa (s3).box 3).trans rfl, (Qaa (s3).box 4).trans rfl⟩
  have S3 := hide s3
  clear s3
  go_wp2_with fail
  go_end0
  exact (Qa S3).fin (by have := List.length_eq_zero_iff.1 (Qa HN); simp [clT, this])
 have g0 : (0 : Int) < (bn : Int) := by omega
 have H0 := hide h0
 clear h0
 go_enter Tryz.func35, Tryz.ntmps35
 go_upto_region 1 with fail
 rw [← Qa HW1]
 have hp := Qeg (Qa S1).wr x.head (Qa HX).1 ((Qa HA).same Qae (Qa S1).kept.below.size (fun q hq _ => (Qa S1).kept.below.block q hq))
 go_wp2_with fail
 refine hp.mono ?_
 clear hp x0 x1 x2 x3 x4 xf
 intro en w2 ha
 obtain ⟨rfl, c2, l2, s2⟩ := (Qa S1).step ha
 obtain ⟨x0, x1, x2, x3, x4⟩ : w2.cell? ⟨w.heap.size, 0, none⟩ = some (str x.head.rel) ∧ w2.cell? ⟨w.heap.size, 1, none⟩ = some (.slice aa x.head.args.length ac) ∧ w2.cell? ⟨w.heap.size, 2, none⟩ = some (.int .i64 x.head.at_) ∧ w2.cell? ⟨w.heap.size, 3, none⟩ = some (.slice ba bn bc) ∧ w2.cell? ⟨w.heap.size, 4, none⟩ = some (.int .i64 x.at_) := ⟨(Qaa (s2).box 0).trans rfl, (Qaa (s2).box 1).trans rfl, (Qaa (s2).box 2).trans rfl, (Qaa (s2).box 3).trans rfl, (Qaa (s2).box 4).trans rfl⟩
 have S2 := hide s2
 clear s2 ha
 have hp := (Qa S2).add ⟨#[32, 58, 45, 32]⟩ (by decide)
 go_wp2_with fail
 refine hp.mono ?_
 clear hp x0 x1 x2 x3 x4
 rintro en w3 ⟨rfl, c3, l3, s3⟩
 obtain ⟨x0, x1, x2, x3, x4⟩ : w3.cell? ⟨w.heap.size, 0, none⟩ = some (str x.head.rel) ∧ w3.cell? ⟨w.heap.size, 1, none⟩ = some (.slice aa x.head.args.length ac) ∧ w3.cell? ⟨w.heap.size, 2, none⟩ = some (.int .i64 x.head.at_) ∧ w3.cell? ⟨w.heap.size, 3, none⟩ = some (.slice ba bn bc) ∧ w3.cell? ⟨w.heap.size, 4, none⟩ = some (.int .i64 x.at_) := ⟨(Qaa (s3).box 0).trans rfl, (Qaa (s3).box 1).trans rfl, (Qaa (s3).box 2).trans rfl, (Qaa (s3).box 3).trans rfl, (Qaa (s3).box 4).trans rfl⟩
 have S3 := hide s3
 clear s3
 have hq : LsAt PLt 16 (fun q => q < B) w (.slice ba bn bc) x.body := by have := Qa HB; rw [Qa HN] at this; exact this
 have hp := Qnk (Qa S3).wr ⟨#[44, 32]⟩ (by decide) ((Qa HB).same Qbn (Qa S3).kept.below.size (fun q hq _ => (Qa S3).kept.below.block q hq)) ltT (fun y hy => Qtn y ((Qa HX).2 y hy)) (Qa HB).len
 rw [Qa HN] at hp
 clear hq
 go_wp2_with fail
 refine hp.mono ?_
 clear hp x0 x1 x2 x3 x4
 intro en w4 ha
 obtain ⟨rfl, c4, l4, s4⟩ := (Qa S3).step ha
 obtain ⟨x0, x1, x2, x3, x4⟩ : w4.cell? ⟨w.heap.size, 0, none⟩ = some (str x.head.rel) ∧ w4.cell? ⟨w.heap.size, 1, none⟩ = some (.slice aa x.head.args.length ac) ∧ w4.cell? ⟨w.heap.size, 2, none⟩ = some (.int .i64 x.head.at_) ∧ w4.cell? ⟨w.heap.size, 3, none⟩ = some (.slice ba bn bc) ∧ w4.cell? ⟨w.heap.size, 4, none⟩ = some (.int .i64 x.at_) := ⟨(Qaa (s4).box 0).trans rfl, (Qaa (s4).box 1).trans rfl, (Qaa (s4).box 2).trans rfl, (Qaa (s4).box 3).trans rfl, (Qaa (s4).box 4).trans rfl⟩
 have S4 := hide s4
 clear s4 ha
 have hp := (Qa S4).add ⟨#[46]⟩ (by decide)
 go_wp2_with fail
 refine hp.mono ?_
 clear hp x0 x1 x2 x3 x4
 rintro en w5 ⟨rfl, c5, l5, s5⟩
 obtain ⟨x0, x1, x2, x3, x4⟩ : w5.cell? ⟨w.heap.size, 0, none⟩ = some (str x.head.rel) ∧ w5.cell? ⟨w.heap.size, 1, none⟩ = some (.slice aa x.head.args.length ac) ∧ w5.cell? ⟨w.heap.size, 2, none⟩ = some (.int .i64 x.head.at_) ∧ w5.cell? ⟨w.heap.size, 3, none⟩ = some (.slice ba bn bc) ∧ w5.cell? ⟨w.heap.size, 4, none⟩ = some (.int .i64 x.at_) := ⟨(Qaa (s5).box 0).trans rfl, (Qaa (s5).box 1).trans rfl, (Qaa (s5).box 2).trans rfl, (Qaa (s5).box 3).trans rfl, (Qaa (s5).box 4).trans rfl⟩
 have S5 := hide s5
 clear s5
 go_wp2_with fail
 go_end0
 exact (Qa S5).fin (by have hb : x.body ≠ [] := fun e => Qa H0 (by rw [← Qa HN, e]; rfl); simp [clT, hb])
end
end Go.Proofs.YtccehgfecaamoaaGreatDoor
