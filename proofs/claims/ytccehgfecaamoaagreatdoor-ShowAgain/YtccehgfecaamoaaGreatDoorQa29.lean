/- show's writer: comp, prog. What is read is short. -/
import Derived.Test.YtccehgfecaamoaaGreatDoorQa27
import Derived.Test.YtccehgfecaamoaaGreatDoorQa28
import Derived.Test.YtccehgfecaamoaaGreatDoorQa22
import Derived.Test.YtccehgfecaamoaaGreatDoorQa16
set_option maxRecDepth 100000
set_option maxHeartbeats 32000000
namespace Go.Proofs.YtccehgfecaamoaaGreatDoor
section
open Go.RowKit Go.Maps
def coT (n : Txt) (bs : List Txt) (t : Txt) : Txt := ([46, 99, 111, 109, 112, 32] ++ n) ++ (if bs = [] then [] else [32, 58, 32] ++ joinT [44, 32] bs) ++ [32, 123, 10] ++ t ++ [125]
mutual
def pgT : Pg → Txt
 | .mk ts ds cs is ls => linesT (ts.map tyT) ++ linesT (ds.map dcT) ++ linesT (cpTs cs) ++ linesT (is.map inT) ++ linesT (ls.map clT)
def cpTs : List Cp → List Txt
 | [] => []
 | (n, bs, p, _) :: cs => coT n bs (pgT p) :: cpTs cs
end
def cpT (x : Cp) : Txt := coT x.1 x.2.1 (pgT x.2.2.1)
theorem Qny : ∀ cs : List Cp, cpTs cs = cs.map cpT
 | [] => by simp [cpTs]
 | (n, bs, p, a) :: cs => by rw [cpTs, Qny cs]; rfl
inductive ShP : Pg → Prop
 | mk (ts : List Typ) (ds : List Dcl) (cs : List Cp) (is : List Ini) (ls : List Cls) (hT : ∀ t ∈ ts, Sh t.name ∧ Sh t.sub ∧ ∀ y ∈ t.ctors, ShC y) (hD : ∀ d ∈ ds, Sh d.name ∧ ∀ f ∈ d.cols, Sh f.name ∧ Sh f.type) (hC : ∀ x ∈ cs, Sh x.1 ∧ ∀ t ∈ x.2.1, Sh t) (hI : ∀ i ∈ is, Sh i.name ∧ Sh i.comp) (hL : ∀ l ∈ ls, ShCl l) (hP : ∀ x ∈ cs, ShP x.2.2.1) : ShP (.mk ts ds cs is ls)
abbrev PPg : PS Pg := fun S w cs x => PgS S w cs x
theorem Qrn {B b : Nat} (x : Cp) (h1 : Sh x.1 ∧ ∀ t ∈ x.2.1, Sh t) (hp : PtM 13 B b PPg x.2.2.1 (pgT x.2.2.1)) : PtM 31 B b PCo x (cpT x) := by
 intro w c lg cs hcs h
 obtain ⟨vb, bd, rfl, _, hB, hP⟩ := hcs
 obtain ⟨ba, bc, rfl⟩ := hB.sl
 obtain ⟨vt, vd, vc, vi, vl, rfl, qt, qd, qc, qi, ql⟩ := hP.cells
 obtain ⟨ta, tc, rfl⟩ := qt.sl
 obtain ⟨da, dc, rfl⟩ := qd.sl
 obtain ⟨ca, cc, rfl⟩ := qc.sl
 obtain ⟨ia, ic, rfl⟩ := qi.sl
 obtain ⟨la, lc, rfl⟩ := ql.sl
 obtain ⟨tm, htn⟩ : ∃ n, x.2.2.1.types.length = n := ⟨_, rfl⟩
 obtain ⟨dm, hdn⟩ : ∃ n, x.2.2.1.decls.length = n := ⟨_, rfl⟩
 obtain ⟨cm, hcn⟩ : ∃ n, x.2.2.1.comps.length = n := ⟨_, rfl⟩
 obtain ⟨im, hin⟩ : ∃ n, x.2.2.1.inits.length = n := ⟨_, rfl⟩
 obtain ⟨lm, hln⟩ : ∃ n, x.2.2.1.clauses.length = n := ⟨_, rfl⟩
 rw [htn, hdn, hcn, hin, hln] at hP ⊢
 obtain ⟨bn, hbn⟩ : ∃ bn, x.2.1.length = bn := ⟨_, rfl⟩
 have HB := hide hB
 have HP := hide hP
 have HX := hide h1
 have HG := hide hp
 have HN := hide hbn
 rw [hbn]
 clear hB hP h1 hp hbn qt qd qc qi ql htn hdn hcn hin hln
 simp only [List.cons_append, List.nil_append]
 have s1 := St.start (T := 72) h #[str x.1, .slice ba bn bc, .slice ta tm tc, .slice da dm dc, .slice ca cm cc, .slice ia im ic, .slice la lm lc, .int .i64 x.2.2.2] (by decide)
 obtain ⟨w1, hw1⟩ : ∃ w1, w1 = w.alloc (.cells #[str x.1, .slice ba bn bc, .slice ta tm tc, .slice da dm dc, .slice ca cm cc, .slice ia im ic, .slice la lm lc, .int .i64 x.2.2.2] 72) := ⟨_, rfl⟩
 rw [← hw1] at s1
 have xf : ∀ o, w1.frozen? ⟨w.heap.size, o, none⟩ = false := fun o => by simp [World.frozen?, s1.box]
 obtain ⟨x0, x1, x2, x3, x4, x5, x6, x7⟩ : w1.cell? ⟨w.heap.size, 0, none⟩ = some (str x.1) ∧ w1.cell? ⟨w.heap.size, 1, none⟩ = some (.slice ba bn bc) ∧ w1.cell? ⟨w.heap.size, 2, none⟩ = some (.slice ta tm tc) ∧ w1.cell? ⟨w.heap.size, 3, none⟩ = some (.slice da dm dc) ∧ w1.cell? ⟨w.heap.size, 4, none⟩ = some (.slice ca cm cc) ∧ w1.cell? ⟨w.heap.size, 5, none⟩ = some (.slice ia im ic) ∧ w1.cell? ⟨w.heap.size, 6, none⟩ = some (.slice la lm lc) ∧ w1.cell? ⟨w.heap.size, 7, none⟩ = some (.int .i64 x.2.2.2) := ⟨(Qaa (s1).box 0).trans rfl, (Qaa (s1).box 1).trans rfl, (Qaa (s1).box 2).trans rfl, (Qaa (s1).box 3).trans rfl, (Qaa (s1).box 4).trans rfl, (Qaa (s1).box 5).trans rfl, (Qaa (s1).box 6).trans rfl, (Qaa (s1).box 7).trans rfl⟩
 have HW1 := hide hw1
 have S1 := hide s1
 clear h hw1 s1
 by_cases h0 : bn = 0
 ·
  subst h0
  go_enter Tryz.func31, Tryz.ntmps31
  go_upto_region 1 with fail
  rw [← Qa HW1]
  have hp := (Qa S1).put [[46, 99, 111, 109, 112, 32], x.1] #[.string ⟨#[46, 99, 111, 109, 112, 32]⟩, str x.1] (n := 2) rfl rfl (by
   intro u hu
   simp only [List.mem_cons, List.not_mem_nil, or_false] at hu
   rcases hu with rfl | rfl
   · show ([46, 99, 111, 109, 112, 32] : Txt).length ≤ 140737488355328; decide
   · exact (Qa HX).1) (by decide)
  go_wp2_with fail
  refine hp.mono ?_
  clear hp x0 x1 x2 x3 x4 x5 x6 x7 xf
  rintro en w2 ⟨rfl, c2, l2, s2⟩
  obtain ⟨x0, x1, x2, x3, x4, x5, x6, x7⟩ : w2.cell? ⟨w.heap.size, 0, none⟩ = some (str x.1) ∧ w2.cell? ⟨w.heap.size, 1, none⟩ = some (.slice ba 0 bc) ∧ w2.cell? ⟨w.heap.size, 2, none⟩ = some (.slice ta tm tc) ∧ w2.cell? ⟨w.heap.size, 3, none⟩ = some (.slice da dm dc) ∧ w2.cell? ⟨w.heap.size, 4, none⟩ = some (.slice ca cm cc) ∧ w2.cell? ⟨w.heap.size, 5, none⟩ = some (.slice ia im ic) ∧ w2.cell? ⟨w.heap.size, 6, none⟩ = some (.slice la lm lc) ∧ w2.cell? ⟨w.heap.size, 7, none⟩ = some (.int .i64 x.2.2.2) := ⟨(Qaa (s2).box 0).trans rfl, (Qaa (s2).box 1).trans rfl, (Qaa (s2).box 2).trans rfl, (Qaa (s2).box 3).trans rfl, (Qaa (s2).box 4).trans rfl, (Qaa (s2).box 5).trans rfl, (Qaa (s2).box 6).trans rfl, (Qaa (s2).box 7).trans rfl⟩
  have S2 := hide s2
  clear s2
  have hp := (Qa S2).add ⟨#[32, 123, 10]⟩ (by decide)
  go_wp2_with fail
  refine hp.mono ?_
  clear hp x0 x1 x2 x3 x4 x5 x6 x7
  rintro en w3 ⟨rfl, c3, l3, s3⟩
  obtain ⟨x0, x1, x2, x3, x4, x5, x6, x7⟩ : w3.cell? ⟨w.heap.size, 0, none⟩ = some (str x.1) ∧ w3.cell? ⟨w.heap.size, 1, none⟩ = some (.slice ba 0 bc) ∧ w3.cell? ⟨w.heap.size, 2, none⟩ = some (.slice ta tm tc) ∧ w3.cell? ⟨w.heap.size, 3, none⟩ = some (.slice da dm dc) ∧ w3.cell? ⟨w.heap.size, 4, none⟩ = some (.slice ca cm cc) ∧ w3.cell? ⟨w.heap.size, 5, none⟩ = some (.slice ia im ic) ∧ w3.cell? ⟨w.heap.size, 6, none⟩ = some (.slice la lm lc) ∧ w3.cell? ⟨w.heap.size, 7, none⟩ = some (.int .i64 x.2.2.2) := ⟨(Qaa (s3).box 0).trans rfl, (Qaa (s3).box 1).trans rfl, (Qaa (s3).box 2).trans rfl, (Qaa (s3).box 3).trans rfl, (Qaa (s3).box 4).trans rfl, (Qaa (s3).box 5).trans rfl, (Qaa (s3).box 6).trans rfl, (Qaa (s3).box 7).trans rfl⟩
  have S3 := hide s3
  clear s3
  have hp := Qa HG _ _ _ [.slice ta tm tc, .slice da dm dc, .slice ca cm cc, .slice ia im ic, .slice la lm lc] (Qat.same _ _ _ _ _ (Qa HP) (Qa S3).kept.below.size (fun q hq _ => (Qa S3).kept.below.block q hq)) (Qa S3).wr
  go_wp2_with fail
  refine hp.mono ?_
  clear hp x0 x1 x2 x3 x4 x5 x6 x7
  intro en w4 ha
  obtain ⟨rfl, c4, l4, s4⟩ := (Qa S3).step ha
  obtain ⟨x0, x1, x2, x3, x4, x5, x6, x7⟩ : w4.cell? ⟨w.heap.size, 0, none⟩ = some (str x.1) ∧ w4.cell? ⟨w.heap.size, 1, none⟩ = some (.slice ba 0 bc) ∧ w4.cell? ⟨w.heap.size, 2, none⟩ = some (.slice ta tm tc) ∧ w4.cell? ⟨w.heap.size, 3, none⟩ = some (.slice da dm dc) ∧ w4.cell? ⟨w.heap.size, 4, none⟩ = some (.slice ca cm cc) ∧ w4.cell? ⟨w.heap.size, 5, none⟩ = some (.slice ia im ic) ∧ w4.cell? ⟨w.heap.size, 6, none⟩ = some (.slice la lm lc) ∧ w4.cell? ⟨w.heap.size, 7, none⟩ = some (.int .i64 x.2.2.2) := ⟨(Qaa (s4).box 0).trans rfl, (Qaa (s4).box 1).trans rfl, (Qaa (s4).box 2).trans rfl, (Qaa (s4).box 3).trans rfl, (Qaa (s4).box 4).trans rfl, (Qaa (s4).box 5).trans rfl, (Qaa (s4).box 6).trans rfl, (Qaa (s4).box 7).trans rfl⟩
  have S4 := hide s4
  clear s4 ha
  have hp := (Qa S4).add ⟨#[125]⟩ (by decide)
  go_wp2_with fail
  refine hp.mono ?_
  clear hp x0 x1 x2 x3 x4 x5 x6 x7
  rintro en w5 ⟨rfl, c5, l5, s5⟩
  obtain ⟨x0, x1, x2, x3, x4, x5, x6, x7⟩ : w5.cell? ⟨w.heap.size, 0, none⟩ = some (str x.1) ∧ w5.cell? ⟨w.heap.size, 1, none⟩ = some (.slice ba 0 bc) ∧ w5.cell? ⟨w.heap.size, 2, none⟩ = some (.slice ta tm tc) ∧ w5.cell? ⟨w.heap.size, 3, none⟩ = some (.slice da dm dc) ∧ w5.cell? ⟨w.heap.size, 4, none⟩ = some (.slice ca cm cc) ∧ w5.cell? ⟨w.heap.size, 5, none⟩ = some (.slice ia im ic) ∧ w5.cell? ⟨w.heap.size, 6, none⟩ = some (.slice la lm lc) ∧ w5.cell? ⟨w.heap.size, 7, none⟩ = some (.int .i64 x.2.2.2) := ⟨(Qaa (s5).box 0).trans rfl, (Qaa (s5).box 1).trans rfl, (Qaa (s5).box 2).trans rfl, (Qaa (s5).box 3).trans rfl, (Qaa (s5).box 4).trans rfl, (Qaa (s5).box 5).trans rfl, (Qaa (s5).box 6).trans rfl, (Qaa (s5).box 7).trans rfl⟩
  have S5 := hide s5
  clear s5
  go_wp2_with fail
  go_end0
  exact (Qa S5).fin (by have := List.length_eq_zero_iff.1 (Qa HN); simp [cpT, coT, this])
 have g0 : (0 : Int) < (bn : Int) := by omega
 have H0 := hide h0
 clear h0
 go_enter Tryz.func31, Tryz.ntmps31
 go_upto_region 1 with fail
 rw [← Qa HW1]
 have hp := (Qa S1).put [[46, 99, 111, 109, 112, 32], x.1] #[.string ⟨#[46, 99, 111, 109, 112, 32]⟩, str x.1] (n := 2) rfl rfl (by
  intro u hu
  simp only [List.mem_cons, List.not_mem_nil, or_false] at hu
  rcases hu with rfl | rfl
  · show ([46, 99, 111, 109, 112, 32] : Txt).length ≤ 140737488355328; decide
  · exact (Qa HX).1) (by decide)
 go_wp2_with fail
 refine hp.mono ?_
 clear hp x0 x1 x2 x3 x4 x5 x6 x7 xf
 rintro en w2 ⟨rfl, c2, l2, s2⟩
 obtain ⟨x0, x1, x2, x3, x4, x5, x6, x7⟩ : w2.cell? ⟨w.heap.size, 0, none⟩ = some (str x.1) ∧ w2.cell? ⟨w.heap.size, 1, none⟩ = some (.slice ba bn bc) ∧ w2.cell? ⟨w.heap.size, 2, none⟩ = some (.slice ta tm tc) ∧ w2.cell? ⟨w.heap.size, 3, none⟩ = some (.slice da dm dc) ∧ w2.cell? ⟨w.heap.size, 4, none⟩ = some (.slice ca cm cc) ∧ w2.cell? ⟨w.heap.size, 5, none⟩ = some (.slice ia im ic) ∧ w2.cell? ⟨w.heap.size, 6, none⟩ = some (.slice la lm lc) ∧ w2.cell? ⟨w.heap.size, 7, none⟩ = some (.int .i64 x.2.2.2) := ⟨(Qaa (s2).box 0).trans rfl, (Qaa (s2).box 1).trans rfl, (Qaa (s2).box 2).trans rfl, (Qaa (s2).box 3).trans rfl, (Qaa (s2).box 4).trans rfl, (Qaa (s2).box 5).trans rfl, (Qaa (s2).box 6).trans rfl, (Qaa (s2).box 7).trans rfl⟩
 have S2 := hide s2
 clear s2
 have hp := (Qa S2).add ⟨#[32, 58, 32]⟩ (by decide)
 go_wp2_with fail
 refine hp.mono ?_
 clear hp x0 x1 x2 x3 x4 x5 x6 x7
 rintro en w3 ⟨rfl, c3, l3, s3⟩
 obtain ⟨x0, x1, x2, x3, x4, x5, x6, x7⟩ : w3.cell? ⟨w.heap.size, 0, none⟩ = some (str x.1) ∧ w3.cell? ⟨w.heap.size, 1, none⟩ = some (.slice ba bn bc) ∧ w3.cell? ⟨w.heap.size, 2, none⟩ = some (.slice ta tm tc) ∧ w3.cell? ⟨w.heap.size, 3, none⟩ = some (.slice da dm dc) ∧ w3.cell? ⟨w.heap.size, 4, none⟩ = some (.slice ca cm cc) ∧ w3.cell? ⟨w.heap.size, 5, none⟩ = some (.slice ia im ic) ∧ w3.cell? ⟨w.heap.size, 6, none⟩ = some (.slice la lm lc) ∧ w3.cell? ⟨w.heap.size, 7, none⟩ = some (.int .i64 x.2.2.2) := ⟨(Qaa (s3).box 0).trans rfl, (Qaa (s3).box 1).trans rfl, (Qaa (s3).box 2).trans rfl, (Qaa (s3).box 3).trans rfl, (Qaa (s3).box 4).trans rfl, (Qaa (s3).box 5).trans rfl, (Qaa (s3).box 6).trans rfl, (Qaa (s3).box 7).trans rfl⟩
 have S3 := hide s3
 clear s3
 have hp := Qnn (Qa S3).wr ⟨#[44, 32]⟩ (by decide) ((Qa HB).same Qbo (Qa S3).kept.below.size (fun q hq _ => (Qa S3).kept.below.block q hq)) (Qa HX).2 (Qa HB).len
 rw [Qa HN] at hp
 go_wp2_with fail
 refine hp.mono ?_
 clear hp x0 x1 x2 x3 x4 x5 x6 x7
 intro en w4 ha
 obtain ⟨rfl, c4, l4, s4⟩ := (Qa S3).step ha
 obtain ⟨x0, x1, x2, x3, x4, x5, x6, x7⟩ : w4.cell? ⟨w.heap.size, 0, none⟩ = some (str x.1) ∧ w4.cell? ⟨w.heap.size, 1, none⟩ = some (.slice ba bn bc) ∧ w4.cell? ⟨w.heap.size, 2, none⟩ = some (.slice ta tm tc) ∧ w4.cell? ⟨w.heap.size, 3, none⟩ = some (.slice da dm dc) ∧ w4.cell? ⟨w.heap.size, 4, none⟩ = some (.slice ca cm cc) ∧ w4.cell? ⟨w.heap.size, 5, none⟩ = some (.slice ia im ic) ∧ w4.cell? ⟨w.heap.size, 6, none⟩ = some (.slice la lm lc) ∧ w4.cell? ⟨w.heap.size, 7, none⟩ = some (.int .i64 x.2.2.2) := ⟨(Qaa (s4).box 0).trans rfl, (Qaa (s4).box 1).trans rfl, (Qaa (s4).box 2).trans rfl, (Qaa (s4).box 3).trans rfl, (Qaa (s4).box 4).trans rfl, (Qaa (s4).box 5).trans rfl, (Qaa (s4).box 6).trans rfl, (Qaa (s4).box 7).trans rfl⟩
 have S4 := hide s4
 clear s4 ha
 have hp := (Qa S4).add ⟨#[32, 123, 10]⟩ (by decide)
 go_wp2_with fail
 refine hp.mono ?_
 clear hp x0 x1 x2 x3 x4 x5 x6 x7
 rintro en w5 ⟨rfl, c5, l5, s5⟩
 obtain ⟨x0, x1, x2, x3, x4, x5, x6, x7⟩ : w5.cell? ⟨w.heap.size, 0, none⟩ = some (str x.1) ∧ w5.cell? ⟨w.heap.size, 1, none⟩ = some (.slice ba bn bc) ∧ w5.cell? ⟨w.heap.size, 2, none⟩ = some (.slice ta tm tc) ∧ w5.cell? ⟨w.heap.size, 3, none⟩ = some (.slice da dm dc) ∧ w5.cell? ⟨w.heap.size, 4, none⟩ = some (.slice ca cm cc) ∧ w5.cell? ⟨w.heap.size, 5, none⟩ = some (.slice ia im ic) ∧ w5.cell? ⟨w.heap.size, 6, none⟩ = some (.slice la lm lc) ∧ w5.cell? ⟨w.heap.size, 7, none⟩ = some (.int .i64 x.2.2.2) := ⟨(Qaa (s5).box 0).trans rfl, (Qaa (s5).box 1).trans rfl, (Qaa (s5).box 2).trans rfl, (Qaa (s5).box 3).trans rfl, (Qaa (s5).box 4).trans rfl, (Qaa (s5).box 5).trans rfl, (Qaa (s5).box 6).trans rfl, (Qaa (s5).box 7).trans rfl⟩
 have S5 := hide s5
 clear s5
 have hp := Qa HG _ _ _ [.slice ta tm tc, .slice da dm dc, .slice ca cm cc, .slice ia im ic, .slice la lm lc] (Qat.same _ _ _ _ _ (Qa HP) (Qa S5).kept.below.size (fun q hq _ => (Qa S5).kept.below.block q hq)) (Qa S5).wr
 go_wp2_with fail
 refine hp.mono ?_
 clear hp x0 x1 x2 x3 x4 x5 x6 x7
 intro en w6 ha
 obtain ⟨rfl, c6, l6, s6⟩ := (Qa S5).step ha
 obtain ⟨x0, x1, x2, x3, x4, x5, x6, x7⟩ : w6.cell? ⟨w.heap.size, 0, none⟩ = some (str x.1) ∧ w6.cell? ⟨w.heap.size, 1, none⟩ = some (.slice ba bn bc) ∧ w6.cell? ⟨w.heap.size, 2, none⟩ = some (.slice ta tm tc) ∧ w6.cell? ⟨w.heap.size, 3, none⟩ = some (.slice da dm dc) ∧ w6.cell? ⟨w.heap.size, 4, none⟩ = some (.slice ca cm cc) ∧ w6.cell? ⟨w.heap.size, 5, none⟩ = some (.slice ia im ic) ∧ w6.cell? ⟨w.heap.size, 6, none⟩ = some (.slice la lm lc) ∧ w6.cell? ⟨w.heap.size, 7, none⟩ = some (.int .i64 x.2.2.2) := ⟨(Qaa (s6).box 0).trans rfl, (Qaa (s6).box 1).trans rfl, (Qaa (s6).box 2).trans rfl, (Qaa (s6).box 3).trans rfl, (Qaa (s6).box 4).trans rfl, (Qaa (s6).box 5).trans rfl, (Qaa (s6).box 6).trans rfl, (Qaa (s6).box 7).trans rfl⟩
 have S6 := hide s6
 clear s6 ha
 have hp := (Qa S6).add ⟨#[125]⟩ (by decide)
 go_wp2_with fail
 refine hp.mono ?_
 clear hp x0 x1 x2 x3 x4 x5 x6 x7
 rintro en w7 ⟨rfl, c7, l7, s7⟩
 obtain ⟨x0, x1, x2, x3, x4, x5, x6, x7⟩ : w7.cell? ⟨w.heap.size, 0, none⟩ = some (str x.1) ∧ w7.cell? ⟨w.heap.size, 1, none⟩ = some (.slice ba bn bc) ∧ w7.cell? ⟨w.heap.size, 2, none⟩ = some (.slice ta tm tc) ∧ w7.cell? ⟨w.heap.size, 3, none⟩ = some (.slice da dm dc) ∧ w7.cell? ⟨w.heap.size, 4, none⟩ = some (.slice ca cm cc) ∧ w7.cell? ⟨w.heap.size, 5, none⟩ = some (.slice ia im ic) ∧ w7.cell? ⟨w.heap.size, 6, none⟩ = some (.slice la lm lc) ∧ w7.cell? ⟨w.heap.size, 7, none⟩ = some (.int .i64 x.2.2.2) := ⟨(Qaa (s7).box 0).trans rfl, (Qaa (s7).box 1).trans rfl, (Qaa (s7).box 2).trans rfl, (Qaa (s7).box 3).trans rfl, (Qaa (s7).box 4).trans rfl, (Qaa (s7).box 5).trans rfl, (Qaa (s7).box 6).trans rfl, (Qaa (s7).box 7).trans rfl⟩
 have S7 := hide s7
 clear s7
 go_wp2_with fail
 go_end0
 exact (Qa S7).fin (by have hb : x.2.1 ≠ [] := fun e => Qa H0 (by rw [← Qa HN, e]; rfl); simp [cpT, coT, hb])
theorem Qrr {B b : Nat} (p : Pg) (hp : ShP p) : PtM 13 B b PPg p (pgT p) := by
 induction hp with
 | mk ts ds cs is ls hT hD hC hI hL hP ih =>
  intro w c lg qs hqs h
  obtain ⟨vt, vd, vc, vi, vl, rfl, qt, qd, qc, qi, ql⟩ := hqs.cells
  simp only [Pg.types, Pg.decls, Pg.comps, Pg.inits, Pg.clauses] at qt qd qc qi ql
  obtain ⟨ta, tc, rfl⟩ := qt.sl
  obtain ⟨da, dc, rfl⟩ := qd.sl
  obtain ⟨ca, cc, rfl⟩ := qc.sl
  obtain ⟨ia, ic, rfl⟩ := qi.sl
  obtain ⟨la, lc, rfl⟩ := ql.sl
  have Qt := hide qt
  have Qd := hide qd
  have Qc := hide qc
  have Qi := hide qi
  have Ql := hide ql
  have HX := hide (Ya hT (Ya hD (Ya hC (Ya hI (Ya hL ih)))))
  clear hqs hT hD hC hI hL hP ih qt qd qc qi ql
  have s1 := St.start (T := 28) h #[.slice ta ts.length tc, .slice da ds.length dc, .slice ca cs.length cc, .slice ia is.length ic, .slice la ls.length lc] (by decide)
  obtain ⟨w1, hw1⟩ : ∃ w1, w1 = w.alloc (.cells #[.slice ta ts.length tc, .slice da ds.length dc, .slice ca cs.length cc, .slice ia is.length ic, .slice la ls.length lc] 28) := ⟨_, rfl⟩
  rw [← hw1] at s1
  have xf : ∀ o, w1.frozen? ⟨w.heap.size, o, none⟩ = false := fun o => by simp [World.frozen?, s1.box]
  obtain ⟨x0, x1, x2, x3, x4⟩ : w1.cell? ⟨w.heap.size, 0, none⟩ = some (.slice ta ts.length tc) ∧ w1.cell? ⟨w.heap.size, 1, none⟩ = some (.slice da ds.length dc) ∧ w1.cell? ⟨w.heap.size, 2, none⟩ = some (.slice ca cs.length cc) ∧ w1.cell? ⟨w.heap.size, 3, none⟩ = some (.slice ia is.length ic) ∧ w1.cell? ⟨w.heap.size, 4, none⟩ = some (.slice la ls.length lc) := ⟨(Qaa (s1).box 0).trans rfl, (Qaa (s1).box 1).trans rfl, (Qaa (s1).box 2).trans rfl, (Qaa (s1).box 3).trans rfl, (Qaa (s1).box 4).trans rfl⟩
  have HW1 := hide hw1
  have S1 := hide s1
  clear h hw1 s1
  go_enter Tryz.func13, Tryz.ntmps13
  go_upto_region 1 with fail
  rw [← Qa HW1]
  have hp := Qkt (Qa S1).wr ((Qa Qt).same Qbh (Qa S1).kept.below.size (fun q hq _ => (Qa S1).kept.below.block q hq)) tyT (fun y hy => Qrt y ((Qa HX).1 y hy).1 ((Qa HX).1 y hy).2.1 ((Qa HX).1 y hy).2.2) (Qa Qt).len
  go_wp2_with fail
  refine hp.mono ?_
  clear hp x0 x1 x2 x3 x4 xf
  intro en w2 ha
  obtain ⟨rfl, c2, l2, s2⟩ := (Qa S1).step ha
  obtain ⟨x0, x1, x2, x3, x4⟩ : w2.cell? ⟨w.heap.size, 0, none⟩ = some (.slice ta ts.length tc) ∧ w2.cell? ⟨w.heap.size, 1, none⟩ = some (.slice da ds.length dc) ∧ w2.cell? ⟨w.heap.size, 2, none⟩ = some (.slice ca cs.length cc) ∧ w2.cell? ⟨w.heap.size, 3, none⟩ = some (.slice ia is.length ic) ∧ w2.cell? ⟨w.heap.size, 4, none⟩ = some (.slice la ls.length lc) := ⟨(Qaa (s2).box 0).trans rfl, (Qaa (s2).box 1).trans rfl, (Qaa (s2).box 2).trans rfl, (Qaa (s2).box 3).trans rfl, (Qaa (s2).box 4).trans rfl⟩
  have S2 := hide s2
  clear s2 ha
  have hp := Qkq (Qa S2).wr ((Qa Qd).same Qbf (Qa S2).kept.below.size (fun q hq _ => (Qa S2).kept.below.block q hq)) dcT (fun y hy => Qrp y ((Qa HX).2.1 y hy).1 ((Qa HX).2.1 y hy).2) (Qa Qd).len
  go_wp2_with fail
  refine hp.mono ?_
  clear hp x0 x1 x2 x3 x4
  intro en w3 ha
  obtain ⟨rfl, c3, l3, s3⟩ := (Qa S2).step ha
  obtain ⟨x0, x1, x2, x3, x4⟩ : w3.cell? ⟨w.heap.size, 0, none⟩ = some (.slice ta ts.length tc) ∧ w3.cell? ⟨w.heap.size, 1, none⟩ = some (.slice da ds.length dc) ∧ w3.cell? ⟨w.heap.size, 2, none⟩ = some (.slice ca cs.length cc) ∧ w3.cell? ⟨w.heap.size, 3, none⟩ = some (.slice ia is.length ic) ∧ w3.cell? ⟨w.heap.size, 4, none⟩ = some (.slice la ls.length lc) := ⟨(Qaa (s3).box 0).trans rfl, (Qaa (s3).box 1).trans rfl, (Qaa (s3).box 2).trans rfl, (Qaa (s3).box 3).trans rfl, (Qaa (s3).box 4).trans rfl⟩
  have S3 := hide s3
  clear s3 ha
  have hp := Qkn (Qa S3).wr ((Qa Qc).same Qas (Qa S3).kept.below.size (fun q hq _ => (Qa S3).kept.below.block q hq)) cpT (fun y hy => Qrn y ((Qa HX).2.2.1 y hy) ((Qa HX).2.2.2.2.2 y hy)) (Qa Qc).len
  go_wp2_with fail
  refine hp.mono ?_
  clear hp x0 x1 x2 x3 x4
  intro en w4 ha
  obtain ⟨rfl, c4, l4, s4⟩ := (Qa S3).step ha
  obtain ⟨x0, x1, x2, x3, x4⟩ : w4.cell? ⟨w.heap.size, 0, none⟩ = some (.slice ta ts.length tc) ∧ w4.cell? ⟨w.heap.size, 1, none⟩ = some (.slice da ds.length dc) ∧ w4.cell? ⟨w.heap.size, 2, none⟩ = some (.slice ca cs.length cc) ∧ w4.cell? ⟨w.heap.size, 3, none⟩ = some (.slice ia is.length ic) ∧ w4.cell? ⟨w.heap.size, 4, none⟩ = some (.slice la ls.length lc) := ⟨(Qaa (s4).box 0).trans rfl, (Qaa (s4).box 1).trans rfl, (Qaa (s4).box 2).trans rfl, (Qaa (s4).box 3).trans rfl, (Qaa (s4).box 4).trans rfl⟩
  have S4 := hide s4
  clear s4 ha
  have hp := Qkr (Qa S4).wr ((Qa Qi).same Qbg (Qa S4).kept.below.size (fun q hq _ => (Qa S4).kept.below.block q hq)) inT (fun y hy => Qrq y ((Qa HX).2.2.2.1 y hy).1 ((Qa HX).2.2.2.1 y hy).2) (Qa Qi).len
  go_wp2_with fail
  refine hp.mono ?_
  clear hp x0 x1 x2 x3 x4
  intro en w5 ha
  obtain ⟨rfl, c5, l5, s5⟩ := (Qa S4).step ha
  obtain ⟨x0, x1, x2, x3, x4⟩ : w5.cell? ⟨w.heap.size, 0, none⟩ = some (.slice ta ts.length tc) ∧ w5.cell? ⟨w.heap.size, 1, none⟩ = some (.slice da ds.length dc) ∧ w5.cell? ⟨w.heap.size, 2, none⟩ = some (.slice ca cs.length cc) ∧ w5.cell? ⟨w.heap.size, 3, none⟩ = some (.slice ia is.length ic) ∧ w5.cell? ⟨w.heap.size, 4, none⟩ = some (.slice la ls.length lc) := ⟨(Qaa (s5).box 0).trans rfl, (Qaa (s5).box 1).trans rfl, (Qaa (s5).box 2).trans rfl, (Qaa (s5).box 3).trans rfl, (Qaa (s5).box 4).trans rfl⟩
  have S5 := hide s5
  clear s5 ha
  have hp := Qks (Qa S5).wr ((Qa Ql).same Qbe (Qa S5).kept.below.size (fun q hq _ => (Qa S5).kept.below.block q hq)) clT (fun y hy => Qkm y ((Qa HX).2.2.2.2.1 y hy)) (Qa Ql).len
  go_wp2_with fail
  refine hp.mono ?_
  clear hp x0 x1 x2 x3 x4
  intro en w6 ha
  obtain ⟨rfl, c6, l6, s6⟩ := (Qa S5).step ha
  obtain ⟨x0, x1, x2, x3, x4⟩ : w6.cell? ⟨w.heap.size, 0, none⟩ = some (.slice ta ts.length tc) ∧ w6.cell? ⟨w.heap.size, 1, none⟩ = some (.slice da ds.length dc) ∧ w6.cell? ⟨w.heap.size, 2, none⟩ = some (.slice ca cs.length cc) ∧ w6.cell? ⟨w.heap.size, 3, none⟩ = some (.slice ia is.length ic) ∧ w6.cell? ⟨w.heap.size, 4, none⟩ = some (.slice la ls.length lc) := ⟨(Qaa (s6).box 0).trans rfl, (Qaa (s6).box 1).trans rfl, (Qaa (s6).box 2).trans rfl, (Qaa (s6).box 3).trans rfl, (Qaa (s6).box 4).trans rfl⟩
  have S6 := hide s6
  clear s6 ha
  go_wp2_with fail
  go_end0
  exact (Qa S6).fin (by simp [pgT, Qny])
end
section
theorem Qrj : ∀ (r : Txt) (v : Txt) (n : Nat), txScan r = .ok v n → v.length ≤ r.length
 | [], _, _, h => by simp [txScan] at h
 | [c], v, n, h => by
  unfold txScan at h
  split at h
  · cases h; simp
  split at h
  · cases h
  · split at h <;> cases h
 | c :: d :: t, v, n, h => by
  unfold txScan at h
  split at h
  · cases h; simp
  split at h
  · cases h
  split at h
  ·
   cases he : esc d with
   | none => rw [he] at h; cases h
   | some b =>
    rw [he] at h
    cases ht : txScan t with
    | ok v' n' =>
     rw [ht] at h
     have := Qrj t v' n' ht
     cases h
     simp only [List.length_cons]; omega
    | bad o => rw [ht] at h; cases h
    | never => rw [ht] at h; cases h
  cases ht : txScan (d :: t) with
  | ok v' n' =>
   rw [ht] at h
   have := Qrj (d :: t) v' n' ht
   cases h
   simp only [List.length_cons] at this ⊢; omega
  | bad o => rw [ht] at h; cases h
  | never => rw [ht] at h; cases h
theorem tok_len {r : Txt} {kd : Int} {tx : Txt} {nm : Int} {n : Nat} (h : tokAt r = .tok kd tx nm n) : tx.length ≤ r.length := by
 cases r with
 | nil => simp [tokAt] at h
 | cons c t =>
  rw [Qef] at h
  split at h
  ·
   unfold nmRes at h
   split at h
   · cases h
   · cases h; rw [List.length_take]; exact Nat.min_le_right _ _
  split at h
  ·
   unfold dgRes at h
   split at h
   · cases h
   split at h
   · cases h
   · cases h; simp
  split at h
  ·
   unfold txRes at h
   cases ht : txScan t with
   | ok v m => rw [ht] at h; cases h; have := Qrj t _ m ht; simp only [List.length_cons]; omega
   | bad o => rw [ht] at h; cases h
   | never => rw [ht] at h; cases h
  unfold sgRes at h
  split at h
  · cases h
  · cases h; rw [List.length_take]; exact Nat.min_le_right _ _
theorem Qsx : ∀ (m : Nat) (r : Txt) (k : Nat), r.length ≤ m → ∀ l, scan k r = .ok l → ∀ t ∈ l, t.text.length ≤ m := by
 intro m
 induction m with
 | zero =>
  intro r k h l hl
  have : r = [] := List.eq_nil_of_length_eq_zero (by omega)
  subst this
  rw [Qda] at hl
  cases hl
  exact fun t ht => by cases ht
 | succ m ih =>
  intro r k h l hl
  by_cases h0 : r = []
  · subst h0; rw [Qda] at hl; cases hl; exact fun t ht => by cases ht
  cases hg : gapAt r with
  | never => rw [Qdj hg] at hl; cases hl
  | gap n =>
   have hp := Qek hg
   rw [Qfb hg] at hl
   have g2 := ih (r.drop n) (k + n) (by rw [List.length_drop]; omega) l hl
   exact fun t ht => by have := g2 t ht; omega
  | none =>
   cases ht : tokAt r with
   | bad w o => rw [Qfa h0 hg ht] at hl; cases hl
   | tok kd tx nm n =>
    have hp := Qeo ht
    rw [Qfc hg ht] at hl
    cases hs : scan (k + n) (r.drop n) with
    | bad w a => rw [hs] at hl; cases hl
    | ok l1 =>
     rw [hs] at hl
     cases hl
     have g2 := ih (r.drop n) (k + n) (by rw [List.length_drop]; omega) l1 hs
     intro t htm
     rcases List.mem_cons.1 htm with rfl | h2
     ·
      have := tok_len ht
      show tx.length ≤ m + 1
      omega
     · have := g2 t h2; omega
def TkS (t : Tok) : Prop := t.text.length ≤ 65536 ∧ 0 ≤ t.num ∧ t.num ≤ 9223372036854775807
def TkL (l : List Tok) : Prop := ∀ t ∈ l, TkS t
theorem lex_tkl {s : Txt} {l : List Tok} (h : lexP s = .ok l) : TkL l := by
 obtain ⟨h1, _, h3⟩ := Qpp h
 unfold lexP at h
 split at h
 · cases h
 intro t ht
 have := Qsx s.length s 0 (Nat.le_refl _) l h t ht
 exact ⟨by omega, (h3 t ht).2.2.1, (h3 t ht).2.2.2⟩
theorem TkL.drop {l : List Tok} (h : TkL l) (n : Nat) : TkL (l.drop n) := fun t ht => h t (List.mem_of_mem_drop ht)
theorem TkL.ahd {l : List Tok} (h : TkL l) (e n : Nat) : TkS (ahd e n l) := by
 unfold Go.Proofs.YtccehgfecaamoaaGreatDoor.ahd
 rw [List.getD_eq_getElem?_getD]
 cases hn : l[n]? with
 | none => exact ⟨by simp, by simp, by simp⟩
 | some t => exact h t (List.mem_of_getElem? hn)
def Okr {α : Type} (P : α → Prop) (r : Rs α) : Prop := ∀ x l i, r = .ok x l i → P x ∧ TkL l
def OkP {α : Type} (P : α → Prop) (p : Pr α) : Prop := ∀ l i, TkL l → Okr P (p l i)
section
variable {α β : Type} {P : α → Prop} {Q : β → Prop}
theorem Qcz (w a : Int) (l : List Tok) : Okr P (.bad w a l) := fun _ _ _ h => by cases h
theorem Qbt {x : α} {l : List Tok} {i : Nat} (h : P x) (hl : TkL l) : Okr P (.ok x l i) := fun _ _ _ e => by cases e; exact ⟨h, hl⟩
theorem Okr.bind {r : Rs α} {f : α → Pr β} (h : Okr P r) (hf : ∀ x l i, P x → TkL l → Okr Q (f x l i)) : Okr Q (r.bind f) := by
 cases r with
 | bad w a l => exact Qcz _ _ _
 | ok x l i => exact hf x l i (h x l i rfl).1 (h x l i rfl).2
theorem Okr.map {r : Rs α} {f : α → β} (h : Okr P r) (hf : ∀ x, P x → Q (f x)) : Okr Q (r.map f) := by
 cases r with
 | bad w a l => exact Qcz _ _ _
 | ok x l i => exact Qbt (hf x (h x l i rfl).1) (h x l i rfl).2
theorem Qao {c : Prop} [Decidable c] {a b : Rs α} (h1 : c → Okr P a) (h2 : ¬ c → Okr P b) : Okr P (if c then a else b) := by
 split
 · rename_i h; exact h1 h
 · rename_i h; exact h2 h
end
def L16 (t : Txt) : Prop := t.length ≤ 65536
section
variable (e : Nat)
theorem Qfs {α : Type} {P : α → Prop} (why : Int) : OkP P (refuse e why) := fun _ _ _ => Qcz _ _ _
theorem Qcy (s : Txt) : OkP (fun _ => True) (want e s) := fun _ _ h => Qao (fun _ => Qbt trivial (h.drop 1)) (fun _ => Qcz _ _ _)
theorem Qfr (ss : List Txt) : OkP L16 (choose e ss) := fun _ _ h => Qao (fun _ => Qbt (h.ahd e 0).1 (h.drop 1)) (fun _ => Qcz _ _ _)
theorem Qix : OkP L16 (nmQ e) := fun _ _ h => Qao (fun _ => Qbt (h.ahd e 0).1 (h.drop 1)) (fun _ => Qcz _ _ _)
theorem Qcm : OkP L16 (wordQ e) := fun _ _ h => Qao (fun _ => Qbt (h.ahd e 0).1 (h.drop 1)) (fun _ => Qcz _ _ _)
theorem Qby {α : Type} {P : α → Prop} {xs : List α} {x : α} (h : ∀ y ∈ xs, P y) (hx : P x) : ∀ y ∈ xs ++ [x], P y := by
 intro y hy
 rcases List.mem_append.1 hy with h1 | h1
 · exact h y h1
 · rw [List.mem_singleton.1 h1]; exact hx
theorem Qlq {α : Type} {P : α → Prop} {part : Pr α} (hp : OkP P part) (sep : Txt) (most : Nat) : ∀ (f : Nat) (acc : List α), (∀ y ∈ acc, P y) → OkP (fun xs => ∀ y ∈ xs, P y) (listL e sep most part f acc)
 | 0, acc, ha => fun l i h => Qbt ha h
 | f + 1, acc, ha => fun l i h => by
  unfold listL
  refine Qao (fun _ => Qcz _ _ _) (fun _ => ?_)
  refine (hp l i h).bind (fun x l2 i2 hx hl => ?_)
  exact Qao (fun _ => Qlq hp sep most f _ (Qby ha hx) _ _ (hl.drop 1)) (fun _ => Qbt (Qby ha hx) hl)
theorem Qf {α : Type} {P : α → Prop} {part : Pr α} (hp : OkP P part) (sep : Txt) (most : Nat) : OkP (fun xs => ∀ y ∈ xs, P y) (listP e sep most part) := fun l i h => Qlq e hp sep most _ _ (fun y hy => by cases hy) l i h
theorem Qhm {α : Type} {P : α → Prop} {part : Pr α} (hp : OkP P part) (op cl : Txt) : OkP (fun xs => ∀ y ∈ xs, P y) (encl e op cl part) := fun l i h => by
 unfold encl
 refine (Qcy e op l i h).bind (fun _ l2 i2 _ hl => ?_)
 refine Qao (fun _ => Qbt (fun y hy => by cases hy) (hl.drop 1)) (fun _ => ?_)
 exact (Qf e hp [44] 8 l2 i2 hl).bind (fun xs l3 i3 hx hl3 => (Qcy e cl l3 i3 hl3).map (fun _ _ => hx))
theorem Qdc {k n a : Int} {s : Txt} (hs : L16 s) (h0 : -9223372036854775807 ≤ n) (h1 : n ≤ 9223372036854775807) : ShE (.mk k n s [] a) := .mk k n s [] a hs h0 h1 (fun x hx => by cases hx)
theorem Qfq : L16 [] := by unfold L16; simp
theorem Qut {s : Txt} {x y : Ex} (hs : L16 s) (hx : ShE x) (hy : ShE y) : ShE (opE s x y) := .mk 5 0 s [x, y] x.at_ hs (by decide) (by decide) (fun z hz => by
 simp only [List.mem_cons, List.not_mem_nil, or_false] at hz
 rcases hz with rfl | rfl
 · exact hx
 · exact hy)
theorem Qlp {F : Pr Ex} (hF : OkP ShE F) (signs : List Txt) : ∀ (f : Nat) (x : Ex), ShE x → OkP ShE (joinL e F signs f x)
 | 0, x, hx => fun l i h => Qbt hx h
 | f + 1, x, hx => fun l i h => by
  unfold joinL
  refine Qao (fun _ => ?_) (fun _ => Qbt hx h)
  exact (hF _ _ (h.drop 1)).bind (fun y l2 i2 hy hl => Qlp hF signs f _ (Qut (h.ahd e 0).1 hx hy) _ _ hl)
theorem Qiw {F : Pr Ex} (hF : OkP ShE F) (signs : List Txt) : OkP ShE (joined e F signs) := fun l i h => (hF l i h).bind (fun x l2 i2 hx hl => Qlp e hF signs _ x hx l2 i2 hl)
theorem Qqk {E F : Pr Ex} (hE : OkP ShE E) (hF : OkP ShE F) : OkP ShE (signed e E F) := fun l i h => by
 unfold signed
 refine (Qfr e _ l i h).bind (fun s l2 i2 hs hl => ?_)
 refine Qao (fun _ => ?_) (fun _ => Qao (fun _ => ?_) (fun _ => ?_))
 ·
  refine (hF l2 i2 hl).map (fun x hx => ?_)
  split
  ·
   cases hx with
   | mk k n s2 ks a hs2 h0 h1 hk => exact Qdc Qfq (by show -9223372036854775807 ≤ - n; omega) (by show - n ≤ _; omega)
  · exact Qut (by unfold L16; decide) (Qdc Qfq (by decide) (by decide)) hx
 · exact (hE l2 i2 hl).bind (fun x l3 i3 hx hl3 => (Qcy e _ l3 i3 hl3).map (fun _ _ => hx))
 · exact (Qcm e l2 i2 hl).bind (fun w l3 i3 hw hl3 => (Qhm e hE _ _ l3 i3 hl3).map (fun ks hks => .mk _ _ _ _ _ hw (by decide) (by decide) hks))
theorem Qms {E F : Pr Ex} (hE : OkP ShE E) (hF : OkP ShE F) : OkP ShE (factorB e E F) := fun l i h => by
 unfold factorB
 have ht := h.ahd e 0
 refine Qao (fun _ => Qbt (Qdc Qfq (by have := ht.2.1; omega) ht.2.2) (h.drop 1)) (fun _ => ?_)
 refine Qao (fun _ => Qbt (Qdc ht.1 (by decide) (by decide)) (h.drop 1)) (fun _ => ?_)
 refine Qao (fun _ => ?_) (fun _ => Qqk e hE hF l i h)
 refine Qao (fun _ => Qbt (Qdc Qfq (by decide) (by decide)) (h.drop 1)) (fun _ => ?_)
 exact (Qcm e l i h).map (fun w hw => Qdc hw (by decide) (by decide))
theorem Qgn : ∀ d : Nat, OkP ShE (exD e d).1 ∧ OkP ShE (exD e d).2
 | 0 => ⟨Qfs e 4, Qfs e 4⟩
 | d + 1 => ⟨Qiw e (Qiw e (Qgn d).2 _) _, Qms e (Qgn d).1 (Qgn d).2⟩
theorem Qkc (d : Nat) : OkP ShA (atomP e d) := fun l i h => (Qix e l i h).bind (fun _ l2 i2 hn hl => (Qhm e (Qgn e d).1 _ _ l2 i2 hl).map (fun _ hz => ⟨Qdr hn, hz⟩))
theorem Qfd : ShE .none := Qdc Qfq (by decide) (by decide)
theorem Qlz : Sh [] := by unfold Sh; simp
theorem ok_lit (d : Nat) : OkP ShL (litP e d) := fun l i h => by
 unfold litP
 refine Qao (fun _ => (Qkc e d _ _ (h.drop 1)).map (fun a ha => ⟨ha, Qlz, Qfd, Qfd⟩)) (fun _ => ?_)
 refine Qao (fun _ => (Qkc e d _ _ h).map (fun a ha => ⟨ha, Qlz, Qfd, Qfd⟩)) (fun _ => ?_)
 refine ((Qgn e d).1 l i h).bind (fun x l2 i2 hx hl => (Qfr e _ l2 i2 hl).bind (fun o l3 i3 ho hl3 => ((Qgn e d).1 l3 i3 hl3).map (fun y hy => ?_)))
 exact ⟨⟨Qlz, fun z hz => by cases hz⟩, Qdr ho, hx, hy⟩
theorem Qqj (d : Nat) : OkP ShCl (clauseP e d) := fun l i h => by
 unfold clauseP
 refine (Qkc e d l i h).bind (fun a l2 i2 ha hl => ?_)
 refine Qao (fun _ => (Qf e (ok_lit e d) _ _ _ _ (hl.drop 1)).bind (fun b l3 i3 hb hl3 => (Qcy e _ l3 i3 hl3).map (fun _ _ => ⟨ha, hb⟩))) (fun _ => (Qcy e _ l2 i2 hl).map (fun _ _ => ⟨ha, fun z hz => by cases hz⟩))
def ShF (f : Fld) : Prop := Sh f.name ∧ Sh f.type
theorem Qlo : OkP ShF (fieldP e) := fun l i h => (Qcm e l i h).bind (fun _ l2 i2 hn hl => (Qcy e _ l2 i2 hl).bind (fun _ l3 i3 _ hl3 => (Qix e l3 i3 hl3).map (fun _ ht => ⟨Qdr hn, Qdr ht⟩)))
theorem ok_ctor : OkP ShC (ctorP e) := fun l i h => (Qcm e l i h).bind (fun _ l2 i2 hn hl => (Qhm e (Qlo e) _ _ l2 i2 hl).map (fun _ hf => ⟨Qdr hn, hf⟩))
def ShT (t : Typ) : Prop := Sh t.name ∧ Sh t.sub ∧ ∀ y ∈ t.ctors, ShC y
theorem ok_type : OkP ShT (typeP e) := fun l i h => by
 unfold typeP
 refine (Qcm e _ i (h.drop 1)).bind (fun n l2 i2 hn hl => (Qfr e _ l2 i2 hl).bind (fun s l3 i3 _ hl3 => ?_))
 exact Qao (fun _ => (Qix e l3 i3 hl3).map (fun t ht => ⟨Qdr hn, Qdr ht, fun z hz => by cases hz⟩)) (fun _ => (Qf e (ok_ctor e) _ _ l3 i3 hl3).map (fun cs hc => ⟨Qdr hn, Qlz, hc⟩))
theorem Qhn : ∀ (f : Nat) (a b : Bool), OkP (fun _ => True) (flagL e f a b)
 | 0, a, b => fun l i h => Qbt trivial h
 | f + 1, a, b => fun l i h => by
  unfold flagL
  refine Qao (fun _ => Qao (fun _ => Qhn f _ _ _ _ (h.drop 1)) (fun _ => Qao (fun _ => Qhn f _ _ _ _ (h.drop 1)) (fun _ => Qbt trivial h))) (fun _ => Qbt trivial h)
def ShD (d : Dcl) : Prop := Sh d.name ∧ ∀ f ∈ d.cols, ShF f
theorem ok_decl : OkP ShD (declP e) := fun _ i h => (Qcm e _ i (h.drop 1)).bind (fun _ l2 i2 hn hl => (Qhm e (Qlo e) _ _ l2 i2 hl).bind (fun _ l3 i3 hc hl3 => (Qhn e _ _ _ l3 i3 hl3).map (fun _ _ => ⟨Qdr hn, hc⟩)))
def ShI (d : Ini) : Prop := Sh d.name ∧ Sh d.comp
theorem ok_init : OkP ShI (initP e) := fun _ i h => (Qcm e _ i (h.drop 1)).bind (fun _ l2 i2 hn hl => (Qcy e _ l2 i2 hl).bind (fun _ l3 i3 _ hl3 => (Qix e l3 i3 hl3).map (fun _ ht => ⟨Qdr hn, Qdr ht⟩)))
def ShX (x : Txt × List Txt × Pg × Int) : Prop := (Sh x.1 ∧ ∀ t ∈ x.2.1, Sh t) ∧ ShP x.2.2.1
theorem Qso {B : Pr Pg} (hB : OkP ShP B) : OkP ShX (compB e B) := fun l i h => by
 unfold compB
 refine (Qcm e _ i (h.drop 1)).bind (fun n l2 i2 hn hl => ?_)
 have h1 : Okr (fun bs => ∀ t ∈ bs, L16 t) (if sgn e l2 = [58] then listP e [44] noMost (nmQ e) (l2.drop 1) i2 else .ok [] l2 i2) := Qao (fun _ => Qf e (Qix e) _ _ _ _ (hl.drop 1)) (fun _ => Qbt (fun z hz => by cases hz) hl)
 refine h1.bind (fun bs l3 i3 hb hl3 => (Qcy e _ l3 i3 hl3).bind (fun _ l4 i4 _ hl4 => (hB l4 i4 hl4).bind (fun p l5 i5 hp hl5 => (Qcy e _ l5 i5 hl5).map (fun _ _ => ?_))))
 exact ⟨⟨Qdr hn, fun t ht => Qdr (hb t ht)⟩, hp⟩
theorem Qly : ShP .none := .mk [] [] [] [] [] (fun _ h => by cases h) (fun _ h => by cases h) (fun _ h => by cases h) (fun _ h => by cases h) (fun _ h => by cases h) (fun _ h => by cases h)
theorem ok_item (d : Nat) {C : Pr (Txt × List Txt × Pg × Int)} (hC : OkP ShX C) (p : Pg) (hp : ShP p) : OkP ShP (itemP e d C p) := fun l i h => by
 cases hp with
 | mk ts ds cs is ls hT hD hQ hI hL hP =>
  unfold itemP
  refine Qao (fun _ => Qcz _ _ _) (fun _ => ?_)
  refine Qao (fun _ => (ok_type e l _ h).map (fun x hx => .mk _ _ _ _ _ (Qby hT hx) hD hQ hI hL hP)) (fun _ => ?_)
  refine Qao (fun _ => (ok_decl e l _ h).map (fun x hx => .mk _ _ _ _ _ hT (Qby hD hx) hQ hI hL hP)) (fun _ => ?_)
  refine Qao (fun _ => (hC l _ h).map (fun x hx => .mk _ _ _ _ _ hT hD (Qby hQ hx.1) hI hL (Qby hP hx.2))) (fun _ => ?_)
  refine Qao (fun _ => (ok_init e l _ h).map (fun x hx => .mk _ _ _ _ _ hT hD hQ (Qby hI hx) hL hP)) (fun _ => ?_)
  exact (Qqj e d l _ h).map (fun x hx => .mk _ _ _ _ _ hT hD hQ hI (Qby hL hx) hP)
theorem Qho (top : Bool) (d : Nat) {C : Pr (Txt × List Txt × Pg × Int)} (hC : OkP ShX C) : ∀ (f : Nat) (p : Pg), ShP p → OkP ShP (progL e top d C f p)
 | 0, p, hp => fun l i h => Qbt hp h
 | f + 1, p, hp => fun l i h => by
  unfold progL
  refine Qao (fun _ => Qbt hp h) (fun _ => ?_)
  exact (ok_item e d hC p hp l i h).bind (fun q l2 i2 hq hl => Qho top d hC f q hq l2 i2 hl)
theorem Qlr : ∀ (d : Nat) (top : Bool), OkP ShP (progD e d top)
 | 0, top => fun l i h => Qho e top 0 (Qfs e 4) _ _ Qly l i h
 | d + 1, top => fun l i h => Qho e top (d + 1) (Qso e (Qlr d false)) _ _ Qly l i h
end
theorem Qsq {s : Txt} {p : Pg} {l : List Tok} {i : Nat} (h : parseP s = .ok p l i) : ShP p := by
 unfold parseP at h
 cases hl : lexP s with
 | bad w a => rw [hl] at h; cases h
 | ok toks => rw [hl] at h; exact (Qlr s.length 32 true toks 0 (lex_tkl hl) p l i h).1
end
end Go.Proofs.YtccehgfecaamoaaGreatDoor
