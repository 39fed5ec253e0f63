/- show's writer: comp, prog. What is read is short. slices.Equal at slices.Equal[[]vestry/api.Field,vestry/api.Field]. slices.Equal at slices.Equal[[]string,string]. slices.EqualFunc at Expr. -/
import Derived.Test.YtccehgfecaamoaaGreatDoorQb24
import Derived.Test.YtccehgfecaamoaaGreatDoorQb25
import Derived.Test.YtccehgfecaamoaaGreatDoorQb21
import Derived.Test.YtccehgfecaamoaaGreatDoorQb15
set_option maxRecDepth 100000
set_option maxHeartbeats 32000000
namespace Go.Proofs.YtccehgfecaamoaaGreatDoor
section
open Go.RowKit Go.Maps
def coT (n : Txt) (bs : List Txt) (t : Txt) : Txt := ([46, 99, 111, 109, 112, 32] ++ n) ++ (if bs = [] then [] else [32, 58, 32] ++ joinT [44, 32] bs) ++ [32, 123, 10] ++ t ++ [125]
mutual
def pgT : Pg → Txt
 | .mk ts ds cs is ls => linesT (ts.map tyT) ++ linesT (ds.map dcT) ++ linesT (cpTs cs) ++ linesT (is.map inT) ++ linesT (ls.map clT)
def cpTs : List Cp → List Txt
 | [] => []
 | (n, bs, p, _) :: cs => coT n bs (pgT p) :: cpTs cs
end
def cpT (x : Cp) : Txt := coT x.1 x.2.1 (pgT x.2.2.1)
theorem Qom : ∀ cs : List Cp, cpTs cs = cs.map cpT
 | [] => by simp [cpTs]
 | (n, bs, p, a) :: cs => by rw [cpTs, Qom cs]; rfl
inductive ShP : Pg → Prop
 | mk (ts : List Typ) (ds : List Dcl) (cs : List Cp) (is : List Ini) (ls : List Cls) (hT : ∀ t ∈ ts, Sh t.name ∧ Sh t.sub ∧ ∀ y ∈ t.ctors, ShC y) (hD : ∀ d ∈ ds, Sh d.name ∧ ∀ f ∈ d.cols, Sh f.name ∧ Sh f.type) (hC : ∀ x ∈ cs, Sh x.1 ∧ ∀ t ∈ x.2.1, Sh t) (hI : ∀ i ∈ is, Sh i.name ∧ Sh i.comp) (hL : ∀ l ∈ ls, ShCl l) (hP : ∀ x ∈ cs, ShP x.2.2.1) : ShP (.mk ts ds cs is ls)
abbrev PPg : PS Pg := fun S w cs x => PgS S w cs x
theorem Qzk {B b : Nat} (x : Cp) (h1 : Sh x.1 ∧ ∀ t ∈ x.2.1, Sh t) (hp : PtM 13 B b PPg x.2.2.1 (pgT x.2.2.1)) : PtM 31 B b PCo x (cpT x) := by
 intro w c lg cs hcs h
 obtain ⟨vb, bd, rfl, _, hB, hP⟩ := hcs
 obtain ⟨ba, bc, rfl⟩ := hB.sl
 obtain ⟨vt, vd, vc, vi, vl, rfl, qt, qd, qc, qi, ql⟩ := hP.cells
 obtain ⟨ta, tc, rfl⟩ := qt.sl
 obtain ⟨da, dc, rfl⟩ := qd.sl
 obtain ⟨ca, cc, rfl⟩ := qc.sl
 obtain ⟨ia, ic, rfl⟩ := qi.sl
 obtain ⟨la, lc, rfl⟩ := ql.sl
 obtain ⟨tm, htn⟩ : ∃ n, x.2.2.1.types.length = n := ⟨_, rfl⟩
 obtain ⟨dm, hdn⟩ : ∃ n, x.2.2.1.decls.length = n := ⟨_, rfl⟩
 obtain ⟨cm, hcn⟩ : ∃ n, x.2.2.1.comps.length = n := ⟨_, rfl⟩
 obtain ⟨im, hin⟩ : ∃ n, x.2.2.1.inits.length = n := ⟨_, rfl⟩
 obtain ⟨lm, hln⟩ : ∃ n, x.2.2.1.clauses.length = n := ⟨_, rfl⟩
 rw [htn, hdn, hcn, hin, hln] at hP ⊢
 obtain ⟨bn, hbn⟩ : ∃ bn, x.2.1.length = bn := ⟨_, rfl⟩
 have HB := hide hB
 have HP := hide hP
 have HX := hide h1
 have HG := hide hp
 have HN := hide hbn
 rw [hbn]
 clear hB hP h1 hp hbn qt qd qc qi ql htn hdn hcn hin hln
 simp only [List.cons_append, List.nil_append]
 have s1 := St.start (T := 72) h #[str x.1, .slice ba bn bc, .slice ta tm tc, .slice da dm dc, .slice ca cm cc, .slice ia im ic, .slice la lm lc, .int .i64 x.2.2.2] (by decide)
 obtain ⟨w1, hw1⟩ : ∃ w1, w1 = w.alloc (.cells #[str x.1, .slice ba bn bc, .slice ta tm tc, .slice da dm dc, .slice ca cm cc, .slice ia im ic, .slice la lm lc, .int .i64 x.2.2.2] 72) := ⟨_, rfl⟩
 rw [← hw1] at s1
 have xf : ∀ o, w1.frozen? ⟨w.heap.size, o, none⟩ = false := fun o => by simp [World.frozen?, s1.box]
 obtain ⟨x0, x1, x2, x3, x4, x5, x6, x7⟩ := cx8 (s1).box
 have HW1 := hide hw1
 have S1 := hide s1
 clear h hw1 s1
 by_cases h0 : bn = 0
 ·
  subst h0
  go_enter Tryz.func31, Tryz.ntmps31
  go_upto_region 1 with fail
  rw [← Qa HW1]
  have hp := (Qa S1).put [[46, 99, 111, 109, 112, 32], x.1] #[.string ⟨#[46, 99, 111, 109, 112, 32]⟩, str x.1] (n := 2) rfl rfl (by
   intro u hu
   simp only [List.mem_cons, List.not_mem_nil, or_false] at hu
   rcases hu with rfl | rfl
   · show ([46, 99, 111, 109, 112, 32] : Txt).length ≤ 140737488355328; decide
   · exact (Qa HX).1) (by decide)
  go_wp2_with fail
  refine hp.mono ?_
  clear hp x0 x1 x2 x3 x4 x5 x6 x7 xf
  rintro en w2 ⟨rfl, c2, l2, s2⟩
  obtain ⟨x0, x1, x2, x3, x4, x5, x6, x7⟩ := cx8 (s2).box
  have S2 := hide s2
  clear s2
  have hp := (Qa S2).add ⟨#[32, 123, 10]⟩ (by decide)
  go_wp2_with fail
  refine hp.mono ?_
  clear hp x0 x1 x2 x3 x4 x5 x6 x7
  rintro en w3 ⟨rfl, c3, l3, s3⟩
  obtain ⟨x0, x1, x2, x3, x4, x5, x6, x7⟩ := cx8 (s3).box
  have S3 := hide s3
  clear s3
  have hp := Qa HG _ _ _ [.slice ta tm tc, .slice da dm dc, .slice ca cm cc, .slice ia im ic, .slice la lm lc] (Qao.same _ _ _ _ _ (Qa HP) (Qa S3).kept.below.size (fun q hq _ => (Qa S3).kept.below.block q hq)) (Qa S3).wr
  go_wp2_with fail
  refine hp.mono ?_
  clear hp x0 x1 x2 x3 x4 x5 x6 x7
  intro en w4 ha
  obtain ⟨rfl, c4, l4, s4⟩ := (Qa S3).step ha
  obtain ⟨x0, x1, x2, x3, x4, x5, x6, x7⟩ := cx8 (s4).box
  have S4 := hide s4
  clear s4 ha
  have hp := (Qa S4).add ⟨#[125]⟩ (by decide)
  go_wp2_with fail
  refine hp.mono ?_
  clear hp x0 x1 x2 x3 x4 x5 x6 x7
  rintro en w5 ⟨rfl, c5, l5, s5⟩
  obtain ⟨x0, x1, x2, x3, x4, x5, x6, x7⟩ := cx8 (s5).box
  have S5 := hide s5
  clear s5
  go_wp2_with fail
  go_end0
  exact (Qa S5).fin (by have := List.length_eq_zero_iff.1 (Qa HN); simp [cpT, coT, this])
 have g0 : (0 : Int) < (bn : Int) := by omega
 have H0 := hide h0
 clear h0
 go_enter Tryz.func31, Tryz.ntmps31
 go_upto_region 1 with fail
 rw [← Qa HW1]
 have hp := (Qa S1).put [[46, 99, 111, 109, 112, 32], x.1] #[.string ⟨#[46, 99, 111, 109, 112, 32]⟩, str x.1] (n := 2) rfl rfl (by
  intro u hu
  simp only [List.mem_cons, List.not_mem_nil, or_false] at hu
  rcases hu with rfl | rfl
  · show ([46, 99, 111, 109, 112, 32] : Txt).length ≤ 140737488355328; decide
  · exact (Qa HX).1) (by decide)
 go_wp2_with fail
 refine hp.mono ?_
 clear hp x0 x1 x2 x3 x4 x5 x6 x7 xf
 rintro en w2 ⟨rfl, c2, l2, s2⟩
 obtain ⟨x0, x1, x2, x3, x4, x5, x6, x7⟩ := cx8 (s2).box
 have S2 := hide s2
 clear s2
 have hp := (Qa S2).add ⟨#[32, 58, 32]⟩ (by decide)
 go_wp2_with fail
 refine hp.mono ?_
 clear hp x0 x1 x2 x3 x4 x5 x6 x7
 rintro en w3 ⟨rfl, c3, l3, s3⟩
 obtain ⟨x0, x1, x2, x3, x4, x5, x6, x7⟩ := cx8 (s3).box
 have S3 := hide s3
 clear s3
 have hp := Quf (Qa S3).wr ⟨#[44, 32]⟩ (by decide) ((Qa HB).same Qbj (Qa S3).kept.below.size (fun q hq _ => (Qa S3).kept.below.block q hq)) (Qa HX).2 (Qa HB).len
 rw [Qa HN] at hp
 go_wp2_with fail
 refine hp.mono ?_
 clear hp x0 x1 x2 x3 x4 x5 x6 x7
 intro en w4 ha
 obtain ⟨rfl, c4, l4, s4⟩ := (Qa S3).step ha
 obtain ⟨x0, x1, x2, x3, x4, x5, x6, x7⟩ := cx8 (s4).box
 have S4 := hide s4
 clear s4 ha
 have hp := (Qa S4).add ⟨#[32, 123, 10]⟩ (by decide)
 go_wp2_with fail
 refine hp.mono ?_
 clear hp x0 x1 x2 x3 x4 x5 x6 x7
 rintro en w5 ⟨rfl, c5, l5, s5⟩
 obtain ⟨x0, x1, x2, x3, x4, x5, x6, x7⟩ := cx8 (s5).box
 have S5 := hide s5
 clear s5
 have hp := Qa HG _ _ _ [.slice ta tm tc, .slice da dm dc, .slice ca cm cc, .slice ia im ic, .slice la lm lc] (Qao.same _ _ _ _ _ (Qa HP) (Qa S5).kept.below.size (fun q hq _ => (Qa S5).kept.below.block q hq)) (Qa S5).wr
 go_wp2_with fail
 refine hp.mono ?_
 clear hp x0 x1 x2 x3 x4 x5 x6 x7
 intro en w6 ha
 obtain ⟨rfl, c6, l6, s6⟩ := (Qa S5).step ha
 obtain ⟨x0, x1, x2, x3, x4, x5, x6, x7⟩ := cx8 (s6).box
 have S6 := hide s6
 clear s6 ha
 have hp := (Qa S6).add ⟨#[125]⟩ (by decide)
 go_wp2_with fail
 refine hp.mono ?_
 clear hp x0 x1 x2 x3 x4 x5 x6 x7
 rintro en w7 ⟨rfl, c7, l7, s7⟩
 obtain ⟨x0, x1, x2, x3, x4, x5, x6, x7⟩ := cx8 (s7).box
 have S7 := hide s7
 clear s7
 go_wp2_with fail
 go_end0
 exact (Qa S7).fin (by have hb : x.2.1 ≠ [] := fun e => Qa H0 (by rw [← Qa HN, e]; rfl); simp [cpT, coT, hb])
theorem Qzp {B b : Nat} (p : Pg) (hp : ShP p) : PtM 13 B b PPg p (pgT p) := by
 induction hp with
 | mk ts ds cs is ls hT hD hC hI hL hP ih =>
  intro w c lg qs hqs h
  obtain ⟨vt, vd, vc, vi, vl, rfl, qt, qd, qc, qi, ql⟩ := hqs.cells
  simp only [Pg.types, Pg.decls, Pg.comps, Pg.inits, Pg.clauses] at qt qd qc qi ql
  obtain ⟨ta, tc, rfl⟩ := qt.sl
  obtain ⟨da, dc, rfl⟩ := qd.sl
  obtain ⟨ca, cc, rfl⟩ := qc.sl
  obtain ⟨ia, ic, rfl⟩ := qi.sl
  obtain ⟨la, lc, rfl⟩ := ql.sl
  have Qt := hide qt
  have Qd := hide qd
  have Qc := hide qc
  have Qi := hide qi
  have Ql := hide ql
  have HX := hide (Ya hT (Ya hD (Ya hC (Ya hI (Ya hL ih)))))
  clear hqs hT hD hC hI hL hP ih qt qd qc qi ql
  have s1 := St.start (T := 28) h #[.slice ta ts.length tc, .slice da ds.length dc, .slice ca cs.length cc, .slice ia is.length ic, .slice la ls.length lc] (by decide)
  obtain ⟨w1, hw1⟩ : ∃ w1, w1 = w.alloc (.cells #[.slice ta ts.length tc, .slice da ds.length dc, .slice ca cs.length cc, .slice ia is.length ic, .slice la ls.length lc] 28) := ⟨_, rfl⟩
  rw [← hw1] at s1
  have xf : ∀ o, w1.frozen? ⟨w.heap.size, o, none⟩ = false := fun o => by simp [World.frozen?, s1.box]
  obtain ⟨x0, x1, x2, x3, x4⟩ := cx5 (s1).box
  have HW1 := hide hw1
  have S1 := hide s1
  clear h hw1 s1
  go_enter Tryz.func13, Tryz.ntmps13
  go_upto_region 1 with fail
  rw [← Qa HW1]
  have hp := Qpy (Qa S1).wr ((Qa Qt).same Qbq (Qa S1).kept.below.size (fun q hq _ => (Qa S1).kept.below.block q hq)) tyT (fun y hy => Qzr y ((Qa HX).1 y hy).1 ((Qa HX).1 y hy).2.1 ((Qa HX).1 y hy).2.2) (Qa Qt).len
  go_wp2_with fail
  refine hp.mono ?_
  clear hp x0 x1 x2 x3 x4 xf
  intro en w2 ha
  obtain ⟨rfl, c2, l2, s2⟩ := (Qa S1).step ha
  obtain ⟨x0, x1, x2, x3, x4⟩ := cx5 (s2).box
  have S2 := hide s2
  clear s2 ha
  have hp := Qpv (Qa S2).wr ((Qa Qd).same Qbp (Qa S2).kept.below.size (fun q hq _ => (Qa S2).kept.below.block q hq)) dcT (fun y hy => Qzm y ((Qa HX).2.1 y hy).1 ((Qa HX).2.1 y hy).2) (Qa Qd).len
  go_wp2_with fail
  refine hp.mono ?_
  clear hp x0 x1 x2 x3 x4
  intro en w3 ha
  obtain ⟨rfl, c3, l3, s3⟩ := (Qa S2).step ha
  obtain ⟨x0, x1, x2, x3, x4⟩ := cx5 (s3).box
  have S3 := hide s3
  clear s3 ha
  have hp := Qpt (Qa S3).wr ((Qa Qc).same Qbb (Qa S3).kept.below.size (fun q hq _ => (Qa S3).kept.below.block q hq)) cpT (fun y hy => Qzk y ((Qa HX).2.2.1 y hy) ((Qa HX).2.2.2.2.2 y hy)) (Qa Qc).len
  go_wp2_with fail
  refine hp.mono ?_
  clear hp x0 x1 x2 x3 x4
  intro en w4 ha
  obtain ⟨rfl, c4, l4, s4⟩ := (Qa S3).step ha
  obtain ⟨x0, x1, x2, x3, x4⟩ := cx5 (s4).box
  have S4 := hide s4
  clear s4 ha
  have hp := Qpw (Qa S4).wr ((Qa Qi).same Qbw (Qa S4).kept.below.size (fun q hq _ => (Qa S4).kept.below.block q hq)) inT (fun y hy => Qzn y ((Qa HX).2.2.2.1 y hy).1 ((Qa HX).2.2.2.1 y hy).2) (Qa Qi).len
  go_wp2_with fail
  refine hp.mono ?_
  clear hp x0 x1 x2 x3 x4
  intro en w5 ha
  obtain ⟨rfl, c5, l5, s5⟩ := (Qa S4).step ha
  obtain ⟨x0, x1, x2, x3, x4⟩ := cx5 (s5).box
  have S5 := hide s5
  clear s5 ha
  have hp := Qpx (Qa S5).wr ((Qa Ql).same Qbg (Qa S5).kept.below.size (fun q hq _ => (Qa S5).kept.below.block q hq)) clT (fun y hy => Qps y ((Qa HX).2.2.2.2.1 y hy)) (Qa Ql).len
  go_wp2_with fail
  refine hp.mono ?_
  clear hp x0 x1 x2 x3 x4
  intro en w6 ha
  obtain ⟨rfl, c6, l6, s6⟩ := (Qa S5).step ha
  obtain ⟨x0, x1, x2, x3, x4⟩ := cx5 (s6).box
  have S6 := hide s6
  clear s6 ha
  go_wp2_with fail
  go_end0
  exact (Qa S6).fin (by simp [pgT, Qom])
end
section
theorem Qzf : ∀ (r : Txt) (v : Txt) (n : Nat), txScan r = .ok v n → v.length ≤ r.length
 | [], _, _, h => by simp [txScan] at h
 | [c], v, n, h => by
  unfold txScan at h
  split at h
  · cases h; simp
  split at h
  · cases h
  · split at h <;> cases h
 | c :: d :: t, v, n, h => by
  unfold txScan at h
  split at h
  · cases h; simp
  split at h
  · cases h
  split at h
  ·
   cases he : esc d with
   | none => rw [he] at h; cases h
   | some b =>
    rw [he] at h
    cases ht : txScan t with
    | ok v' n' =>
     rw [ht] at h
     have := Qzf t v' n' ht
     cases h
     simp only [List.length_cons]; omega
    | bad o => rw [ht] at h; cases h
    | never => rw [ht] at h; cases h
  cases ht : txScan (d :: t) with
  | ok v' n' =>
   rw [ht] at h
   have := Qzf (d :: t) v' n' ht
   cases h
   simp only [List.length_cons] at this ⊢; omega
  | bad o => rw [ht] at h; cases h
  | never => rw [ht] at h; cases h
theorem tok_len {r : Txt} {kd : Int} {tx : Txt} {nm : Int} {n : Nat} (h : tokAt r = .tok kd tx nm n) : tx.length ≤ r.length := by
 cases r with
 | nil => simp [tokAt] at h
 | cons c t =>
  rw [Qbm] at h
  split at h
  ·
   unfold nmRes at h
   split at h
   · cases h
   · cases h; rw [List.length_take]; exact Nat.min_le_right _ _
  split at h
  ·
   unfold dgRes at h
   split at h
   · cases h
   split at h
   · cases h
   · cases h; simp
  split at h
  ·
   unfold txRes at h
   cases ht : txScan t with
   | ok v m => rw [ht] at h; cases h; have := Qzf t _ m ht; simp only [List.length_cons]; omega
   | bad o => rw [ht] at h; cases h
   | never => rw [ht] at h; cases h
  unfold sgRes at h
  split at h
  · cases h
  · cases h; rw [List.length_take]; exact Nat.min_le_right _ _
theorem Jbe : ∀ (m : Nat) (r : Txt) (k : Nat), r.length ≤ m → ∀ l, scan k r = .ok l → ∀ t ∈ l, t.text.length ≤ m := by
 intro m
 induction m with
 | zero =>
  intro r k h l hl
  have : r = [] := List.eq_nil_of_length_eq_zero (by omega)
  subst this
  rw [Qcs] at hl
  cases hl
  exact fun t ht => by cases ht
 | succ m ih =>
  intro r k h l hl
  by_cases h0 : r = []
  · subst h0; rw [Qcs] at hl; cases hl; exact fun t ht => by cases ht
  cases hg : gapAt r with
  | never => rw [Qeg hg] at hl; cases hl
  | gap n =>
   have hp := Qfx hg
   rw [Qfq hg] at hl
   have g2 := ih (r.drop n) (k + n) (by rw [List.length_drop]; omega) l hl
   exact fun t ht => by have := g2 t ht; omega
  | none =>
   cases ht : tokAt r with
   | bad w o => rw [Qgj h0 hg ht] at hl; cases hl
   | tok kd tx nm n =>
    have hp := Qg ht
    rw [Qfr hg ht] at hl
    cases hs : scan (k + n) (r.drop n) with
    | bad w a => rw [hs] at hl; cases hl
    | ok l1 =>
     rw [hs] at hl
     cases hl
     have g2 := ih (r.drop n) (k + n) (by rw [List.length_drop]; omega) l1 hs
     intro t htm
     rcases List.mem_cons.1 htm with rfl | h2
     ·
      have := tok_len ht
      show tx.length ≤ m + 1
      omega
     · have := g2 t h2; omega
def TkS (t : Tok) : Prop := t.text.length ≤ 65536 ∧ 0 ≤ t.num ∧ t.num ≤ 9223372036854775807
def TkL (l : List Tok) : Prop := ∀ t ∈ l, TkS t
theorem lex_tkl {s : Txt} {l : List Tok} (h : lexP s = .ok l) : TkL l := by
 obtain ⟨h1, _, h3⟩ := Qrd h
 unfold lexP at h
 split at h
 · cases h
 intro t ht
 have := Jbe s.length s 0 (Nat.le_refl _) l h t ht
 exact ⟨by omega, (h3 t ht).2.2.1, (h3 t ht).2.2.2⟩
theorem TkL.drop {l : List Tok} (h : TkL l) (n : Nat) : TkL (l.drop n) := fun t ht => h t (List.mem_of_mem_drop ht)
theorem TkL.ahd {l : List Tok} (h : TkL l) (e n : Nat) : TkS (ahd e n l) := by
 unfold Go.Proofs.YtccehgfecaamoaaGreatDoor.ahd
 rw [List.getD_eq_getElem?_getD]
 cases hn : l[n]? with
 | none => exact ⟨by simp, by simp, by simp⟩
 | some t => exact h t (List.mem_of_getElem? hn)
def Okr {α : Type} (P : α → Prop) (r : Rs α) : Prop := ∀ x l i, r = .ok x l i → P x ∧ TkL l
def OkP {α : Type} (P : α → Prop) (p : Pr α) : Prop := ∀ l i, TkL l → Okr P (p l i)
section
variable {α β : Type} {P : α → Prop} {Q : β → Prop}
theorem Qer (w a : Int) (l : List Tok) : Okr P (.bad w a l) := fun _ _ _ h => by cases h
theorem Qco {x : α} {l : List Tok} {i : Nat} (h : P x) (hl : TkL l) : Okr P (.ok x l i) := fun _ _ _ e => by cases e; exact ⟨h, hl⟩
theorem Okr.bind {r : Rs α} {f : α → Pr β} (h : Okr P r) (hf : ∀ x l i, P x → TkL l → Okr Q (f x l i)) : Okr Q (r.bind f) := by
 cases r with
 | bad w a l => exact Qer _ _ _
 | ok x l i => exact hf x l i (h x l i rfl).1 (h x l i rfl).2
theorem Okr.map {r : Rs α} {f : α → β} (h : Okr P r) (hf : ∀ x, P x → Q (f x)) : Okr Q (r.map f) := by
 cases r with
 | bad w a l => exact Qer _ _ _
 | ok x l i => exact Qco (hf x (h x l i rfl).1) (h x l i rfl).2
theorem Qaz {c : Prop} [Decidable c] {a b : Rs α} (h1 : c → Okr P a) (h2 : ¬ c → Okr P b) : Okr P (if c then a else b) := by
 split
 · rename_i h; exact h1 h
 · rename_i h; exact h2 h
end
def L16 (t : Txt) : Prop := t.length ≤ 65536
section
variable (e : Nat)
theorem Qin {α : Type} {P : α → Prop} (why : Int) : OkP P (refuse e why) := fun _ _ _ => Qer _ _ _
theorem Qeq (s : Txt) : OkP (fun _ => True) (want e s) := fun _ _ h => Qaz (fun _ => Qco trivial (h.drop 1)) (fun _ => Qer _ _ _)
theorem Qim (ss : List Txt) : OkP L16 (choose e ss) := fun _ _ h => Qaz (fun _ => Qco (h.ahd e 0).1 (h.drop 1)) (fun _ => Qer _ _ _)
theorem Qnc : OkP L16 (nmQ e) := fun _ _ h => Qaz (fun _ => Qco (h.ahd e 0).1 (h.drop 1)) (fun _ => Qer _ _ _)
theorem Qdr : OkP L16 (wordQ e) := fun _ _ h => Qaz (fun _ => Qco (h.ahd e 0).1 (h.drop 1)) (fun _ => Qer _ _ _)
theorem Qbc {α : Type} {P : α → Prop} {xs : List α} {x : α} (h : ∀ y ∈ xs, P y) (hx : P x) : ∀ y ∈ xs ++ [x], P y := by
 intro y hy
 rcases List.mem_append.1 hy with h1 | h1
 · exact h y h1
 · rw [List.mem_singleton.1 h1]; exact hx
theorem Qrl {α : Type} {P : α → Prop} {part : Pr α} (hp : OkP P part) (sep : Txt) (most : Nat) : ∀ (f : Nat) (acc : List α), (∀ y ∈ acc, P y) → OkP (fun xs => ∀ y ∈ xs, P y) (listL e sep most part f acc)
 | 0, acc, ha => fun l i h => Qco ha h
 | f + 1, acc, ha => fun l i h => by
  unfold listL
  refine Qaz (fun _ => Qer _ _ _) (fun _ => ?_)
  refine (hp l i h).bind (fun x l2 i2 hx hl => ?_)
  exact Qaz (fun _ => Qrl hp sep most f _ (Qbc ha hx) _ _ (hl.drop 1)) (fun _ => Qco (Qbc ha hx) hl)
theorem Qho {α : Type} {P : α → Prop} {part : Pr α} (hp : OkP P part) (sep : Txt) (most : Nat) : OkP (fun xs => ∀ y ∈ xs, P y) (listP e sep most part) := fun l i h => Qrl e hp sep most _ _ (fun y hy => by cases hy) l i h
theorem Qlj {α : Type} {P : α → Prop} {part : Pr α} (hp : OkP P part) (op cl : Txt) : OkP (fun xs => ∀ y ∈ xs, P y) (encl e op cl part) := fun l i h => by
 unfold encl
 refine (Qeq e op l i h).bind (fun _ l2 i2 _ hl => ?_)
 refine Qaz (fun _ => Qco (fun y hy => by cases hy) (hl.drop 1)) (fun _ => ?_)
 exact (Qho e hp [44] 8 l2 i2 hl).bind (fun xs l3 i3 hx hl3 => (Qeq e cl l3 i3 hl3).map (fun _ _ => hx))
theorem Qev {k n a : Int} {s : Txt} (hs : L16 s) (h0 : -9223372036854775807 ≤ n) (h1 : n ≤ 9223372036854775807) : ShE (.mk k n s [] a) := .mk k n s [] a hs h0 h1 (fun x hx => by cases hx)
theorem Qij : L16 [] := by unfold L16; simp
theorem Jdi {s : Txt} {x y : Ex} (hs : L16 s) (hx : ShE x) (hy : ShE y) : ShE (opE s x y) := .mk 5 0 s [x, y] x.at_ hs (by decide) (by decide) (fun z hz => by
 simp only [List.mem_cons, List.not_mem_nil, or_false] at hz
 rcases hz with rfl | rfl
 · exact hx
 · exact hy)
theorem Qrk {F : Pr Ex} (hF : OkP ShE F) (signs : List Txt) : ∀ (f : Nat) (x : Ex), ShE x → OkP ShE (joinL e F signs f x)
 | 0, x, hx => fun l i h => Qco hx h
 | f + 1, x, hx => fun l i h => by
  unfold joinL
  refine Qaz (fun _ => ?_) (fun _ => Qco hx h)
  exact (hF _ _ (h.drop 1)).bind (fun y l2 i2 hy hl => Qrk hF signs f _ (Jdi (h.ahd e 0).1 hx hy) _ _ hl)
theorem Qnb {F : Pr Ex} (hF : OkP ShE F) (signs : List Txt) : OkP ShE (joined e F signs) := fun l i h => (hF l i h).bind (fun x l2 i2 hx hl => Qrk e hF signs _ x hx l2 i2 hl)
theorem Qxt {E F : Pr Ex} (hE : OkP ShE E) (hF : OkP ShE F) : OkP ShE (signed e E F) := fun l i h => by
 unfold signed
 refine (Qim e _ l i h).bind (fun s l2 i2 hs hl => ?_)
 refine Qaz (fun _ => ?_) (fun _ => Qaz (fun _ => ?_) (fun _ => ?_))
 ·
  refine (hF l2 i2 hl).map (fun x hx => ?_)
  split
  ·
   cases hx with
   | mk k n s2 ks a hs2 h0 h1 hk => exact Qev Qij (by show -9223372036854775807 ≤ - n; omega) (by show - n ≤ _; omega)
  · exact Jdi (by unfold L16; decide) (Qev Qij (by decide) (by decide)) hx
 · exact (hE l2 i2 hl).bind (fun x l3 i3 hx hl3 => (Qeq e _ l3 i3 hl3).map (fun _ _ => hx))
 · exact (Qdr e l2 i2 hl).bind (fun w l3 i3 hw hl3 => (Qlj e hE _ _ l3 i3 hl3).map (fun ks hks => .mk _ _ _ _ _ hw (by decide) (by decide) hks))
theorem Qtk {E F : Pr Ex} (hE : OkP ShE E) (hF : OkP ShE F) : OkP ShE (factorB e E F) := fun l i h => by
 unfold factorB
 have ht := h.ahd e 0
 refine Qaz (fun _ => Qco (Qev Qij (by have := ht.2.1; omega) ht.2.2) (h.drop 1)) (fun _ => ?_)
 refine Qaz (fun _ => Qco (Qev ht.1 (by decide) (by decide)) (h.drop 1)) (fun _ => ?_)
 refine Qaz (fun _ => ?_) (fun _ => Qxt e hE hF l i h)
 refine Qaz (fun _ => Qco (Qev Qij (by decide) (by decide)) (h.drop 1)) (fun _ => ?_)
 exact (Qdr e l i h).map (fun w hw => Qev hw (by decide) (by decide))
theorem Qjt : ∀ d : Nat, OkP ShE (exD e d).1 ∧ OkP ShE (exD e d).2
 | 0 => ⟨Qin e 4, Qin e 4⟩
 | d + 1 => ⟨Qnb e (Qnb e (Qjt d).2 _) _, Qtk e (Qjt d).1 (Qjt d).2⟩
theorem Qpe (d : Nat) : OkP ShA (atomP e d) := fun l i h => (Qnc e l i h).bind (fun _ l2 i2 hn hl => (Qlj e (Qjt e d).1 _ _ l2 i2 hl).map (fun _ hz => ⟨Qfu hn, hz⟩))
theorem Qhs : ShE .none := Qev Qij (by decide) (by decide)
theorem Qsc : Sh [] := by unfold Sh; simp
theorem ok_lit (d : Nat) : OkP ShL (litP e d) := fun l i h => by
 unfold litP
 refine Qaz (fun _ => (Qpe e d _ _ (h.drop 1)).map (fun a ha => ⟨ha, Qsc, Qhs, Qhs⟩)) (fun _ => ?_)
 refine Qaz (fun _ => (Qpe e d _ _ h).map (fun a ha => ⟨ha, Qsc, Qhs, Qhs⟩)) (fun _ => ?_)
 refine ((Qjt e d).1 l i h).bind (fun x l2 i2 hx hl => (Qim e _ l2 i2 hl).bind (fun o l3 i3 ho hl3 => ((Qjt e d).1 l3 i3 hl3).map (fun y hy => ?_)))
 exact ⟨⟨Qsc, fun z hz => by cases hz⟩, Qfu ho, hx, hy⟩
theorem Qxs (d : Nat) : OkP ShCl (clauseP e d) := fun l i h => by
 unfold clauseP
 refine (Qpe e d l i h).bind (fun a l2 i2 ha hl => ?_)
 refine Qaz (fun _ => (Qho e (ok_lit e d) _ _ _ _ (hl.drop 1)).bind (fun b l3 i3 hb hl3 => (Qeq e _ l3 i3 hl3).map (fun _ _ => ⟨ha, hb⟩))) (fun _ => (Qeq e _ l2 i2 hl).map (fun _ _ => ⟨ha, fun z hz => by cases hz⟩))
def ShF (f : Fld) : Prop := Sh f.name ∧ Sh f.type
theorem Qrj : OkP ShF (fieldP e) := fun l i h => (Qdr e l i h).bind (fun _ l2 i2 hn hl => (Qeq e _ l2 i2 hl).bind (fun _ l3 i3 _ hl3 => (Qnc e l3 i3 hl3).map (fun _ ht => ⟨Qfu hn, Qfu ht⟩)))
theorem ok_ctor : OkP ShC (ctorP e) := fun l i h => (Qdr e l i h).bind (fun _ l2 i2 hn hl => (Qlj e (Qrj e) _ _ l2 i2 hl).map (fun _ hf => ⟨Qfu hn, hf⟩))
def ShT (t : Typ) : Prop := Sh t.name ∧ Sh t.sub ∧ ∀ y ∈ t.ctors, ShC y
theorem ok_type : OkP ShT (typeP e) := fun l i h => by
 unfold typeP
 refine (Qdr e _ i (h.drop 1)).bind (fun n l2 i2 hn hl => (Qim e _ l2 i2 hl).bind (fun s l3 i3 _ hl3 => ?_))
 exact Qaz (fun _ => (Qnc e l3 i3 hl3).map (fun t ht => ⟨Qfu hn, Qfu ht, fun z hz => by cases hz⟩)) (fun _ => (Qho e (ok_ctor e) _ _ l3 i3 hl3).map (fun cs hc => ⟨Qfu hn, Qsc, hc⟩))
theorem Qlk : ∀ (f : Nat) (a b : Bool), OkP (fun _ => True) (flagL e f a b)
 | 0, a, b => fun l i h => Qco trivial h
 | f + 1, a, b => fun l i h => by
  unfold flagL
  refine Qaz (fun _ => Qaz (fun _ => Qlk f _ _ _ _ (h.drop 1)) (fun _ => Qaz (fun _ => Qlk f _ _ _ _ (h.drop 1)) (fun _ => Qco trivial h))) (fun _ => Qco trivial h)
def ShD (d : Dcl) : Prop := Sh d.name ∧ ∀ f ∈ d.cols, ShF f
theorem ok_decl : OkP ShD (declP e) := fun _ i h => (Qdr e _ i (h.drop 1)).bind (fun _ l2 i2 hn hl => (Qlj e (Qrj e) _ _ l2 i2 hl).bind (fun _ l3 i3 hc hl3 => (Qlk e _ _ _ l3 i3 hl3).map (fun _ _ => ⟨Qfu hn, hc⟩)))
def ShI (d : Ini) : Prop := Sh d.name ∧ Sh d.comp
theorem ok_init : OkP ShI (initP e) := fun _ i h => (Qdr e _ i (h.drop 1)).bind (fun _ l2 i2 hn hl => (Qeq e _ l2 i2 hl).bind (fun _ l3 i3 _ hl3 => (Qnc e l3 i3 hl3).map (fun _ ht => ⟨Qfu hn, Qfu ht⟩)))
def ShX (x : Txt × List Txt × Pg × Int) : Prop := (Sh x.1 ∧ ∀ t ∈ x.2.1, Sh t) ∧ ShP x.2.2.1
theorem Jat {B : Pr Pg} (hB : OkP ShP B) : OkP ShX (compB e B) := fun l i h => by
 unfold compB
 refine (Qdr e _ i (h.drop 1)).bind (fun n l2 i2 hn hl => ?_)
 have h1 : Okr (fun bs => ∀ t ∈ bs, L16 t) (if sgn e l2 = [58] then listP e [44] noMost (nmQ e) (l2.drop 1) i2 else .ok [] l2 i2) := Qaz (fun _ => Qho e (Qnc e) _ _ _ _ (hl.drop 1)) (fun _ => Qco (fun z hz => by cases hz) hl)
 refine h1.bind (fun bs l3 i3 hb hl3 => (Qeq e _ l3 i3 hl3).bind (fun _ l4 i4 _ hl4 => (hB l4 i4 hl4).bind (fun p l5 i5 hp hl5 => (Qeq e _ l5 i5 hl5).map (fun _ _ => ?_))))
 exact ⟨⟨Qfu hn, fun t ht => Qfu (hb t ht)⟩, hp⟩
theorem Qsb : ShP .none := .mk [] [] [] [] [] (fun _ h => by cases h) (fun _ h => by cases h) (fun _ h => by cases h) (fun _ h => by cases h) (fun _ h => by cases h) (fun _ h => by cases h)
theorem ok_item (d : Nat) {C : Pr (Txt × List Txt × Pg × Int)} (hC : OkP ShX C) (p : Pg) (hp : ShP p) : OkP ShP (itemP e d C p) := fun l i h => by
 cases hp with
 | mk ts ds cs is ls hT hD hQ hI hL hP =>
  unfold itemP
  refine Qaz (fun _ => Qer _ _ _) (fun _ => ?_)
  refine Qaz (fun _ => (ok_type e l _ h).map (fun x hx => .mk _ _ _ _ _ (Qbc hT hx) hD hQ hI hL hP)) (fun _ => ?_)
  refine Qaz (fun _ => (ok_decl e l _ h).map (fun x hx => .mk _ _ _ _ _ hT (Qbc hD hx) hQ hI hL hP)) (fun _ => ?_)
  refine Qaz (fun _ => (hC l _ h).map (fun x hx => .mk _ _ _ _ _ hT hD (Qbc hQ hx.1) hI hL (Qbc hP hx.2))) (fun _ => ?_)
  refine Qaz (fun _ => (ok_init e l _ h).map (fun x hx => .mk _ _ _ _ _ hT hD hQ (Qbc hI hx) hL hP)) (fun _ => ?_)
  exact (Qxs e d l _ h).map (fun x hx => .mk _ _ _ _ _ hT hD hQ hI (Qbc hL hx) hP)
theorem Qll (top : Bool) (d : Nat) {C : Pr (Txt × List Txt × Pg × Int)} (hC : OkP ShX C) : ∀ (f : Nat) (p : Pg), ShP p → OkP ShP (progL e top d C f p)
 | 0, p, hp => fun l i h => Qco hp h
 | f + 1, p, hp => fun l i h => by
  unfold progL
  refine Qaz (fun _ => Qco hp h) (fun _ => ?_)
  exact (ok_item e d hC p hp l i h).bind (fun q l2 i2 hq hl => Qll top d hC f q hq l2 i2 hl)
theorem Qrm : ∀ (d : Nat) (top : Bool), OkP ShP (progD e d top)
 | 0, top => fun l i h => Qll e top 0 (Qin e 4) _ _ Qsb l i h
 | d + 1, top => fun l i h => Qll e top (d + 1) (Jat e (Qrm d false)) _ _ Qsb l i h
end
theorem Qrw {s : Txt} {p : Pg} {l : List Tok} {i : Nat} (h : parseP s = .ok p l i) : ShP p := by
 unfold parseP at h
 cases hl : lexP s with
 | bad w a => rw [hl] at h; cases h
 | ok toks => rw [hl] at h; exact (Qrm s.length 32 true toks 0 (lex_tkl hl) p l i h).1
end
section
open Go.RowKit Go.Maps
def eqFd (x y : Fld) : Bool := decide (x.name = y.name) && decide (x.type = y.type)
theorem Qvt {S : Nat → Prop} {w : World} {va vb : Value} {xs ys : List Fld} (ha : LsAt PF 2 S w va xs) (hb : LsAt PF 2 S w vb ys) :
  Calls Tryz.prog 74 #[va, vb] w fun en w' => en = .returned (.bool (eqL eqFd xs ys)) ∧ Below w.heap.size w w' := by
 obtain ⟨a1, p1, e1⟩ := ha.sl
 obtain ⟨a2, p2, e2⟩ := hb.sl
 have hm1 : xs.length ≤ p1 ∧ p1 ≤ maxLen := by
  obtain ⟨_, _, _, e, h1, h2, _⟩ := ha
  rw [e] at e1
  cases e1
  exact ⟨h1, h2⟩
 have hm2 : ys.length ≤ p2 ∧ p2 ≤ maxLen := by
  obtain ⟨_, _, _, e, h1, h2, _⟩ := hb
  rw [e] at e2
  cases e2
  exact ⟨h1, h2⟩
 unfold maxLen at hm1 hm2
 obtain ⟨n1, hn1⟩ : ∃ n, xs.length = n := ⟨_, rfl⟩
 obtain ⟨n2, hn2⟩ : ∃ n, ys.length = n := ⟨_, rfl⟩
 rw [hn1] at e1 hm1
 rw [hn2] at e2 hm2
 obtain ⟨hc1, hc2⟩ := hm1
 obtain ⟨hc3, hc4⟩ := hm2
 have HA := hide (Ya ha (Ya hb (Ya hn1 hn2)))
 have HV := hide (Ya e1 e2)
 rw [e1, e2]
 clear ha hb e1 e2 hn1 hn2
 by_cases hlen : n1 = n2
 ·
  subst hlen
  go_enter Tryz.func74, Tryz.ntmps74
  go_wp2_with fail
  go_loopw [13] (fun i wr => ∃ j : Nat, i = .int .i64 (j : Int) ∧ j ≤ n1 ∧ Hid (Below w.heap.size w wr ∧ ∀ q x y, q < j → xs[q]? = some x → ys[q]? = some y → eqFd x y = true)) (fun i _ => n1 - (intOf i).toNat)
  case atStart => exact ⟨0, rfl, Nat.zero_le _, hide ⟨Below.refl _ _, fun q _ _ hq => absurd hq (Nat.not_lt_zero _)⟩⟩
  obtain ⟨j, rfl, hj, HB⟩ := hrel
  by_cases hlt : j < n1
  ·
   obtain ⟨ha, hb, hn1, hn2⟩ := Qa HA
   obtain ⟨bw, hall⟩ := Qa HB
   obtain ⟨x, hx⟩ : ∃ x, xs[j]? = some x := ⟨xs[j]'(by omega), List.getElem?_eq_getElem _⟩
   obtain ⟨y, hy⟩ : ∃ y, ys[j]? = some y := ⟨ys[j]'(by omega), List.getElem?_eq_getElem _⟩
   obtain ⟨b1, q1, cs1, ev1, hb1, _, hl1, hp1, hc1'⟩ := (ha.later Qbv bw).elem hx
   obtain ⟨b2, q2, cs2, ev2, hb2, _, hl2, hp2, hc2'⟩ := (hb.later Qbv bw).elem hy
   have hp1 : cs1 = [str x.name, str x.type] := hp1
   have hp2 : cs2 = [str y.name, str y.type] := hp2
   subst hp1
   subst hp2
   rw [(Qa HV).1, hn1] at ev1
   rw [(Qa HV).2, hn2] at ev2
   simp only [Value.slice.injEq] at ev1 ev2
   obtain ⟨rfl, -, -⟩ := ev1
   obtain ⟨rfl, -, -⟩ := ev2
   have x_0 : wr.cell? ⟨b1, j * 2, none⟩ = some (str x.name) := hc1' 0 _ rfl
   have y_0 : wr.cell? ⟨b2, j * 2, none⟩ = some (str y.name) := hc2' 0 _ rfl
   have x_1 : wr.cell? ⟨b1, j * 2 + 1, none⟩ = some (str x.type) := hc1' 1 _ rfl
   have y_1 : wr.cell? ⟨b2, j * 2 + 1, none⟩ = some (str y.type) := hc2' 1 _ rfl
   clear ha hb hc1' hc2' hl1 hl2 hn1 hn2 HA HV HB
   by_cases e0 : x.name = y.name
   ·
    have g0 : (x.name == y.name) = true := by simpa using e0
    by_cases e1 : x.type = y.type
    ·
     have g1 : (x.type == y.type) = true := by simpa using e1
     have HF := hide (Ya hx (Ya hy (Ya hall (Ya bw (show eqFd x y = true by unfold eqFd; simp [e0, e1])))))
     clear hx hy hall bw e0 e1
     go_wp2_with fail
     go_region
     all_goals
      go_wp2_with fail
      go_roundw
      case rel =>
       obtain ⟨hx, hy, hall, bw, hr⟩ := Qa HF
       refine ⟨j + 1, by go_num, by omega, hide ⟨bw.drew, fun q x' y' hq hx' hy' => ?_⟩⟩
       by_cases e : q = j
       ·
        subst e
        rw [hx] at hx'
        rw [hy] at hy'
        cases hx'
        cases hy'
        exact hr
       · exact hall q x' y' (by omega) hx' hy'
      case measure => simp [intOf]; omega
    have g1 : (x.type == y.type) = false := by simpa using e1
    have HF := hide (Ya hx (Ya hy (Ya hall (Ya bw (show eqFd x y = false by unfold eqFd; simp [e0, e1])))))
    clear hx hy hall bw e0 e1
    go_wp2_with fail
    go_region
    all_goals
     go_wp2_with fail
     go_ret
     obtain ⟨hx, hy, hall, bw, hr⟩ := Qa HF
     exact ⟨by rw [Qai hx hy hr]; rfl, bw.drew⟩
   have g0 : (x.name == y.name) = false := by simpa using e0
   have HF := hide (Ya hx (Ya hy (Ya hall (Ya bw (show eqFd x y = false by unfold eqFd; simp [e0])))))
   clear hx hy hall bw e0
   go_wp2_with fail
   go_region
   all_goals
    go_wp2_with fail
    go_ret
    obtain ⟨hx, hy, hall, bw, hr⟩ := Qa HF
    exact ⟨by rw [Qai hx hy hr]; rfl, bw.drew⟩
  obtain ⟨bw, hall⟩ := Qa HB
  have HF := hide (Ya bw hall)
  clear bw hall HB
  go_wp2_with fail
  go_ret
  obtain ⟨bw, hall⟩ := Qa HF
  obtain ⟨_, _, hn1, hn2⟩ := Qa HA
  exact ⟨by rw [Qbd (by omega) (fun q x' y' hx' hy' => hall q x' y' (by have := (List.getElem?_eq_some_iff.1 hx').1; omega) hx' hy')]; rfl, bw⟩
 have hne : ((n1 : Int) != (n2 : Int)) = true := by simp; omega
 go_enter Tryz.func74, Tryz.ntmps74
 go_wp2_with fail
 go_ret
 obtain ⟨_, _, hn1, hn2⟩ := Qa HA
 exact ⟨by rw [Qbo (by omega)]; rfl, Below.refl _ _⟩
end
section
open Go.RowKit Go.Maps
def eqTx (x y : Txt) : Bool := decide (x = y)
theorem equal_s {S : Nat → Prop} {w : World} {va vb : Value} {xs ys : List Txt} (ha : LsAt PSt 1 S w va xs) (hb : LsAt PSt 1 S w vb ys) :
  Calls Tryz.prog 75 #[va, vb] w fun en w' => en = .returned (.bool (eqL eqTx xs ys)) ∧ Below w.heap.size w w' := by
 obtain ⟨a1, p1, e1⟩ := ha.sl
 obtain ⟨a2, p2, e2⟩ := hb.sl
 have hm1 : xs.length ≤ p1 ∧ p1 ≤ maxLen := by
  obtain ⟨_, _, _, e, h1, h2, _⟩ := ha
  rw [e] at e1
  cases e1
  exact ⟨h1, h2⟩
 have hm2 : ys.length ≤ p2 ∧ p2 ≤ maxLen := by
  obtain ⟨_, _, _, e, h1, h2, _⟩ := hb
  rw [e] at e2
  cases e2
  exact ⟨h1, h2⟩
 unfold maxLen at hm1 hm2
 obtain ⟨n1, hn1⟩ : ∃ n, xs.length = n := ⟨_, rfl⟩
 obtain ⟨n2, hn2⟩ : ∃ n, ys.length = n := ⟨_, rfl⟩
 rw [hn1] at e1 hm1
 rw [hn2] at e2 hm2
 obtain ⟨hc1, hc2⟩ := hm1
 obtain ⟨hc3, hc4⟩ := hm2
 have HA := hide (Ya ha (Ya hb (Ya hn1 hn2)))
 have HV := hide (Ya e1 e2)
 rw [e1, e2]
 clear ha hb e1 e2 hn1 hn2
 by_cases hlen : n1 = n2
 ·
  subst hlen
  go_enter Tryz.func75, Tryz.ntmps75
  go_wp2_with fail
  go_loopw [13] (fun i wr => ∃ j : Nat, i = .int .i64 (j : Int) ∧ j ≤ n1 ∧ Hid (Below w.heap.size w wr ∧ ∀ q x y, q < j → xs[q]? = some x → ys[q]? = some y → eqTx x y = true)) (fun i _ => n1 - (intOf i).toNat)
  case atStart => exact ⟨0, rfl, Nat.zero_le _, hide ⟨Below.refl _ _, fun q _ _ hq => absurd hq (Nat.not_lt_zero _)⟩⟩
  obtain ⟨j, rfl, hj, HB⟩ := hrel
  by_cases hlt : j < n1
  ·
   obtain ⟨ha, hb, hn1, hn2⟩ := Qa HA
   obtain ⟨bw, hall⟩ := Qa HB
   obtain ⟨x, hx⟩ : ∃ x, xs[j]? = some x := ⟨xs[j]'(by omega), List.getElem?_eq_getElem _⟩
   obtain ⟨y, hy⟩ : ∃ y, ys[j]? = some y := ⟨ys[j]'(by omega), List.getElem?_eq_getElem _⟩
   obtain ⟨b1, q1, cs1, ev1, hb1, _, hl1, hp1, hc1'⟩ := (ha.later Qbj bw).elem hx
   obtain ⟨b2, q2, cs2, ev2, hb2, _, hl2, hp2, hc2'⟩ := (hb.later Qbj bw).elem hy
   have hp1 : cs1 = [str x] := hp1
   have hp2 : cs2 = [str y] := hp2
   subst hp1
   subst hp2
   rw [(Qa HV).1, hn1] at ev1
   rw [(Qa HV).2, hn2] at ev2
   simp only [Value.slice.injEq] at ev1 ev2
   obtain ⟨rfl, -, -⟩ := ev1
   obtain ⟨rfl, -, -⟩ := ev2
   simp only [Nat.mul_one] at hc1' hc2'
   have x_0 : wr.cell? ⟨b1, j, none⟩ = some (str x) := hc1' 0 _ rfl
   have y_0 : wr.cell? ⟨b2, j, none⟩ = some (str y) := hc2' 0 _ rfl
   clear ha hb hc1' hc2' hl1 hl2 hn1 hn2 HA HV HB
   by_cases e0 : x = y
   ·
    have g0 : (x == y) = true := by simpa using e0
    have HF := hide (Ya hx (Ya hy (Ya hall (Ya bw (show eqTx x y = true by unfold eqTx; simp [e0])))))
    clear hx hy hall bw e0
    go_wp2_with fail
    go_region
    all_goals
     go_wp2_with fail
     go_roundw
     case rel =>
      obtain ⟨hx, hy, hall, bw, hr⟩ := Qa HF
      refine ⟨j + 1, by go_num, by omega, hide ⟨bw.drew, fun q x' y' hq hx' hy' => ?_⟩⟩
      by_cases e : q = j
      ·
       subst e
       rw [hx] at hx'
       rw [hy] at hy'
       cases hx'
       cases hy'
       exact hr
      · exact hall q x' y' (by omega) hx' hy'
     case measure => simp [intOf]; omega
   have g0 : (x == y) = false := by simpa using e0
   have HF := hide (Ya hx (Ya hy (Ya hall (Ya bw (show eqTx x y = false by unfold eqTx; simp [e0])))))
   clear hx hy hall bw e0
   go_wp2_with fail
   go_region
   all_goals
    go_wp2_with fail
    go_ret
    obtain ⟨hx, hy, hall, bw, hr⟩ := Qa HF
    exact ⟨by rw [Qai hx hy hr]; rfl, bw.drew⟩
  obtain ⟨bw, hall⟩ := Qa HB
  have HF := hide (Ya bw hall)
  clear bw hall HB
  go_wp2_with fail
  go_ret
  obtain ⟨bw, hall⟩ := Qa HF
  obtain ⟨_, _, hn1, hn2⟩ := Qa HA
  exact ⟨by rw [Qbd (by omega) (fun q x' y' hx' hy' => hall q x' y' (by have := (List.getElem?_eq_some_iff.1 hx').1; omega) hx' hy')]; rfl, bw⟩
 have hne : ((n1 : Int) != (n2 : Int)) = true := by simp; omega
 go_enter Tryz.func75, Tryz.ntmps75
 go_wp2_with fail
 go_ret
 obtain ⟨_, _, hn1, hn2⟩ := Qa HA
 exact ⟨by rw [Qbo (by omega)]; rfl, Below.refl _ _⟩
end
section
open Go.RowKit Go.Maps
def qeLoad (a : Value) : Sem Value := Instr.loadAt 67 a
theorem Qmy (a : Value) : Instr.loadAt 67 a = qeLoad a := rfl
def qeStore (p v : Value) : Sem Unit := Instr.storeAt 67 p v
theorem Qk (p v : Value) : Instr.storeAt 67 p v = qeStore p v := rfl
theorem Qyu : (Tryz.prog.info? 67).map (·.size) = some 5 := by kernel_rfl
theorem Qgu {w : World} {b o : Nat} {c0 c1 c2 c3 c4 : Value} (h : ∀ q c, ([c0, c1, c2, c3, c4] : List Value)[q]? = some c → w.cell? ⟨b, o + q, none⟩ = some c) : (qeLoad (.pointer (some ⟨b, o, none⟩))).run Tryz.prog w = .ok (.agg #[c0, c1, c2, c3, c4]) w :=
 run_loadAt_mid w b o 67 [c0, c1, c2, c3, c4] _ (fun q v hq => h q v hq) Tryz.underlying67 rfl Qyu
theorem Jda (w : World) {c0 c1 c2 c3 c4 : Value} (h1 : ∀ c ∈ ([c0, c1, c2, c3, c4] : List Value), c.oneCell' = true) : (qeStore (.pointer (some ⟨w.heap.size, 0, none⟩)) (.agg #[c0, c1, c2, c3, c4])).run Tryz.prog (w.alloc (.cells #[.int .i64 0, .int .i64 0, .string ⟨#[]⟩, .slice none 0 0, .int .i64 0] 67)) = .ok () (w.alloc (.cells #[c0, c1, c2, c3, c4] 67)) :=
 run_storeAt_new w 67 _ _ Qyu rfl (by simpa using h1)
theorem Qrb {cs : List Value} (h : cs.length = 5) : ∃ c0 c1 c2 c3 c4, cs = [c0, c1, c2, c3, c4] := by
 match cs, h with
 | [c0, c1, c2, c3, c4], _ => exact ⟨c0, c1, c2, c3, c4, rfl⟩
attribute [local go_sem ↓] Qmy Qk
theorem eqf_e {α : Type} {p : PS α} (hp : PSok p) (hone : ∀ S w cs x, p S w cs x → ∀ c ∈ cs, c.oneCell' = true) {S : Nat → Prop} {w : World} {va vb : Value} {xs ys : List α} (eq : α → α → Bool) (ha : LsAt p 5 S w va xs) (hb : LsAt p 5 S w vb ys)
  (hf : ∀ (j : Nat) (x y : α), xs[j]? = some x → ys[j]? = some y → ∀ w' c0 c1 c2 c3 c4 d0 d1 d2 d3 d4, Below w.heap.size w w' → p S w' [c0, c1, c2, c3, c4] x → p S w' [d0, d1, d2, d3, d4] y → Calls Tryz.prog 103 #[.agg #[c0, c1, c2, c3, c4], .agg #[d0, d1, d2, d3, d4]] w' fun en w2 => en = .returned (.bool (eq x y)) ∧ Below w'.heap.size w' w2) :
  Calls Tryz.prog 102 #[va, vb, .func (.func 103) #[] #[]] w fun en w' => en = .returned (.bool (eqL eq xs ys)) ∧ Below w.heap.size w w' := by
 obtain ⟨a1, p1, e1⟩ := ha.sl
 obtain ⟨a2, p2, e2⟩ := hb.sl
 have hm1 : xs.length ≤ p1 ∧ p1 ≤ maxLen := by
  obtain ⟨_, _, _, e, h1, h2, _⟩ := ha
  rw [e] at e1
  cases e1
  exact ⟨h1, h2⟩
 have hm2 : ys.length ≤ p2 ∧ p2 ≤ maxLen := by
  obtain ⟨_, _, _, e, h1, h2, _⟩ := hb
  rw [e] at e2
  cases e2
  exact ⟨h1, h2⟩
 unfold maxLen at hm1 hm2
 obtain ⟨n1, hn1⟩ : ∃ n, xs.length = n := ⟨_, rfl⟩
 obtain ⟨n2, hn2⟩ : ∃ n, ys.length = n := ⟨_, rfl⟩
 rw [hn1] at e1 hm1
 rw [hn2] at e2 hm2
 obtain ⟨hc1, hc2⟩ := hm1
 obtain ⟨hc3, hc4⟩ := hm2
 have HA := hide (Ya ha (Ya hb (Ya hf (Ya hn1 hn2))))
 have HV := hide (Ya e1 e2)
 rw [e1, e2]
 clear ha hb hf e1 e2 hn1 hn2
 by_cases hlen : n1 = n2
 ·
  subst hlen
  go_enter Tryz.func102, Tryz.ntmps102
  go_wp2_with fail
  go_loopw [17] (fun i wr => ∃ j : Nat, i = .int .i64 (j : Int) ∧ j ≤ n1 ∧ Hid (Below w.heap.size w wr ∧ ∀ q x y, q < j → xs[q]? = some x → ys[q]? = some y → eq x y = true)) (fun i _ => n1 - (intOf i).toNat)
  case atStart => exact ⟨0, rfl, Nat.zero_le _, hide ⟨Below.refl _ _, fun q _ _ hq => absurd hq (Nat.not_lt_zero _)⟩⟩
  obtain ⟨j, rfl, hj, HB⟩ := hrel
  by_cases hlt : j < n1
  ·
   obtain ⟨ha, hb, hf, hn1, hn2⟩ := Qa HA
   obtain ⟨bw, hall⟩ := Qa HB
   obtain ⟨x, hx⟩ : ∃ x, xs[j]? = some x := ⟨xs[j]'(by omega), List.getElem?_eq_getElem _⟩
   obtain ⟨y, hy⟩ : ∃ y, ys[j]? = some y := ⟨ys[j]'(by omega), List.getElem?_eq_getElem _⟩
   obtain ⟨b1, q1, cs1, ev1, hb1, _, hl1, hp1, hc1'⟩ := (ha.later hp bw).elem hx
   obtain ⟨b2, q2, cs2, ev2, hb2, _, hl2, hp2, hc2'⟩ := (hb.later hp bw).elem hy
   obtain ⟨c0, c1, c2, c3, c4, rfl⟩ := Qrb hl1
   obtain ⟨d0, d1, d2, d3, d4, rfl⟩ := Qrb hl2
   rw [(Qa HV).1, hn1] at ev1
   rw [(Qa HV).2, hn2] at ev2
   simp only [Value.slice.injEq] at ev1 ev2
   obtain ⟨rfl, -, -⟩ := ev1
   obtain ⟨rfl, -, -⟩ := ev2
   have h1 := hone _ _ _ _ hp1
   have h2 := hone _ _ _ _ hp2
   obtain ⟨W1, hW1⟩ : ∃ W1, W1 = wr.alloc (.cells #[c0, c1, c2, c3, c4] 67) := ⟨_, rfl⟩
   obtain ⟨W2, hW2⟩ : ∃ W2, W2 = W1.alloc (.cells #[d0, d1, d2, d3, d4] 67) := ⟨_, rfl⟩
   have s1 : W1.heap.size = wr.heap.size + 1 := by rw [hW1]; simp
   have B1 : Below wr.heap.size wr W1 := bnw hW1
   have B2 : Below wr.heap.size wr W2 := by rw [hW2]; exact B1.alloc B1.size _
   have m1 : W1.heap[wr.heap.size]? = some (.cells #[c0, c1, c2, c3, c4] 67 (0, 0)) := nnw hW1
   have m2 : W2.heap[W1.heap.size]? = some (.cells #[d0, d1, d2, d3, d4] 67 (0, 0)) := nnw hW2
   have m3 : W2.heap[wr.heap.size]? = some (.cells #[c0, c1, c2, c3, c4] 67 (0, 0)) := by rw [hW2, Below.heap_alloc _ _ _ (by omega)]; exact m1
   have L1 := Qgu (w := wr) (b := b1) (o := j * 5) hc1'
   have N1 := Jda wr h1
   have L2 := Qgu (w := W1) (b := b2) (o := j * 5) (fun q c hq => by rw [B1.cell (p := ⟨b2, _, none⟩) hb2]; exact hc2' q c hq)
   have N2 := Jda W1 h2
   have L3 := Qgu (w := W2) (b := wr.heap.size) (o := 0) (fun q c hq => by rw [Qab m3, Nat.zero_add]; simpa using hq)
   have L4 := Qgu (w := W2) (b := W1.heap.size) (o := 0) (fun q c hq => by rw [Qab m2, Nat.zero_add]; simpa using hq)
   have hcl := hf j x y hx hy W2 c0 c1 c2 c3 c4 d0 d1 d2 d3 d4 (bw.trans (B2.mono bw.size)) (hp.same _ _ _ _ _ hp1 B2.size (fun b _ hl => B2.block b hl)) (hp.same _ _ _ _ _ hp2 B2.size (fun b _ hl => B2.block b hl))
   rw [← hW1] at N1
   rw [← hW2] at N2
   obtain ⟨r, hr⟩ : ∃ r, r = eq x y := ⟨_, rfl⟩
   rw [← hr] at hcl
   have HF := hide (Ya hx (Ya hy (Ya hall (Ya (bw.trans (B2.mono bw.size)) hr))))
   clear ha hb hf bw hall hx hy hc1' hc2' hp1 hp2 hl1 hl2 h1 h2 hW1 hW2 s1 B1 B2 m1 m2 m3 hn1 hn2 HA HV hb1 hb2 hr HB
   cases r
   ·
    go_wp2_with fail
    refine hcl.mono ?_
    clear hcl
    rintro en w4 ⟨rfl, b4⟩
    have B4 := hide b4
    clear b4 L1 N1 L2 N2 L3 L4
    go_wp2_with fail
    go_ret
    obtain ⟨hx, hy, hall, bw, hr⟩ := Qa HF
    exact ⟨by rw [Qai hx hy hr.symm]; rfl, bw.trans ((Qa B4).mono bw.size)⟩
   go_wp2_with fail
   refine hcl.mono ?_
   clear hcl
   rintro en w4 ⟨rfl, b4⟩
   have B4 := hide b4
   clear b4 L1 N1 L2 N2 L3 L4
   go_wp2_with fail
   go_roundw
   case rel =>
    obtain ⟨hx, hy, hall, bw, hr⟩ := Qa HF
    refine ⟨j + 1, by go_num, by omega, hide ⟨bw.trans ((Qa B4).mono bw.size), fun q x' y' hq hx' hy' => ?_⟩⟩
    by_cases e : q = j
    ·
     subst e
     rw [hx] at hx'
     rw [hy] at hy'
     cases hx'
     cases hy'
     exact hr.symm
    · exact hall q x' y' (by omega) hx' hy'
   case measure => simp [intOf]; omega
  obtain ⟨bw, hall⟩ := Qa HB
  have HF := hide (Ya bw hall)
  clear bw hall HB
  go_wp2_with fail
  go_ret
  obtain ⟨bw, hall⟩ := Qa HF
  obtain ⟨_, _, _, hn1, hn2⟩ := Qa HA
  exact ⟨by rw [Qbd (by omega) (fun q x' y' hx' hy' => hall q x' y' (by have := (List.getElem?_eq_some_iff.1 hx').1; omega) hx' hy')]; rfl, bw⟩
 have hne : ((n1 : Int) != (n2 : Int)) = true := by simp; omega
 go_enter Tryz.func102, Tryz.ntmps102
 go_wp2_with fail
 go_ret
 obtain ⟨_, _, _, hn1, hn2⟩ := Qa HA
 exact ⟨by rw [Qbo (by omega)]; rfl, Below.refl _ _⟩
end
end Go.Proofs.YtccehgfecaamoaaGreatDoor
