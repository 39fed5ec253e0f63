/- show's writer: expressions. show's writer: list at vestry/api.Lit. show's writer: atom, lit, clause. -/
import Derived.Test.YtccehgfecaamoaaGreatDoorQb22
import Derived.Test.YtccehgfecaamoaaGreatDoorQb23
set_option maxRecDepth 100000
set_option maxHeartbeats 32000000
namespace Go.Proofs.YtccehgfecaamoaaGreatDoor
section
open Go.RowKit Go.Maps
def opdT (k : Int) (t : Txt) : Txt := if k = 5 then [40] ++ t ++ [41] else t
def opT (s : Txt) : List Int → List Txt → Txt
 | [a, b], [t, u] => opdT a t ++ ([32] ++ s ++ [32]) ++ opdT b u
 | _, _ => []
mutual
def exT : Ex → Txt
 | .mk k n s ks _ => if k = 1 then s else if k = 2 then Lib.itoa n else if k = 3 then qtT s else if k = 4 then [95] else if k = 5 then opT s (ks.map Ex.kind) (exTs ks) else if k = 6 then ([36] ++ s ++ [40]) ++ joinT [44, 32] (exTs ks) ++ [41] else []
def exTs : List Ex → List Txt
 | [] => []
 | x :: xs => exT x :: exTs xs
end
theorem Qou : ∀ xs : List Ex, exTs xs = xs.map exT
 | [] => by simp [exTs]
 | x :: xs => by rw [exTs, Qou xs]; rfl
inductive ShE : Ex → Prop
 | mk (k n : Int) (s : Txt) (ks : List Ex) (a : Int) (hs : s.length ≤ 65536) (h0 : -9223372036854775807 ≤ n) (h1 : n ≤ 9223372036854775807) (hk : ∀ x ∈ ks, ShE x) : ShE (.mk k n s ks a)
theorem Qfu {t : Txt} (h : t.length ≤ 65536) : Sh t := Nat.le_trans h (by decide)
theorem Qhi {B b : Nat} (x : Ex) (hx : PtM 101 B b PE x (exT x)) : PtM 149 B b PE x (opdT x.kind (exT x)) := by
 intro w c lg cs hcs h
 have HC := hide hcs
 obtain ⟨_, rfl, ⟨ka, kc, rfl⟩, hkl⟩ := ExS.cells hcs
 clear hcs
 have HX := hide hx
 clear hx hkl
 obtain ⟨k, hk⟩ : ∃ k, x.kind = k := ⟨_, rfl⟩
 by_cases h5 : k = 5
 ·
  subst h5
  rw [hk] at HC ⊢
  clear hk
  have s1 := St.start (T := 67) h #[.int .i64 5, .int .i64 x.num, str x.txt, .slice ka x.kids.length kc, .int .i64 x.at_] (by decide)
  obtain ⟨w1, hw1⟩ : ∃ w1, w1 = w.alloc (.cells #[.int .i64 5, .int .i64 x.num, str x.txt, .slice ka x.kids.length kc, .int .i64 x.at_] 67) := ⟨_, rfl⟩
  rw [← hw1] at s1
  have xf : ∀ o, w1.frozen? ⟨w.heap.size, o, none⟩ = false := fun o => by simp [World.frozen?, s1.box]
  obtain ⟨x0, x1, x2, x3, x4⟩ := cx5 (s1).box
  have HW1 := hide hw1
  have S1 := hide s1
  clear h hw1 s1
  go_enter Tryz.func149, Tryz.ntmps149
  go_upto_region 1 with fail
  rw [← Qa HW1]
  have hp := (Qa S1).add ⟨#[40]⟩ (by decide)
  go_wp2_with fail
  refine hp.mono ?_
  clear hp x0 x1 x2 x3 x4 xf
  rintro en w2 ⟨rfl, c2, l2, s2⟩
  obtain ⟨x0, x1, x2, x3, x4⟩ := cx5 (s2).box
  have S2 := hide s2
  clear s2
  have hp := Qa HX _ _ _ [.int .i64 5, .int .i64 x.num, str x.txt, .slice ka x.kids.length kc, .int .i64 x.at_] (Qae.same _ _ _ _ _ (Qa HC) (Qa S2).kept.below.size (fun q hq _ => (Qa S2).kept.below.block q hq)) (Qa S2).wr
  go_wp2_with fail
  refine hp.mono ?_
  clear hp x0 x1 x2 x3 x4
  intro en w3 ha
  obtain ⟨rfl, c3, l3, s3⟩ := (Qa S2).step ha
  obtain ⟨x0, x1, x2, x3, x4⟩ := cx5 (s3).box
  have S3 := hide s3
  clear s3 ha
  have hp := (Qa S3).add ⟨#[41]⟩ (by decide)
  go_wp2_with fail
  refine hp.mono ?_
  clear hp x0 x1 x2 x3 x4
  rintro en w4 ⟨rfl, c4, l4, s4⟩
  obtain ⟨x0, x1, x2, x3, x4⟩ := cx5 (s4).box
  have S4 := hide s4
  clear s4
  go_wp2_with fail
  go_end0
  exact (Qa S4).fin (by simp [opdT])
 have g5 : (k == 5) = false := by simpa using h5
 rw [hk] at HC ⊢
 have H5 := hide h5
 clear hk h5
 have s1 := St.start (T := 67) h #[.int .i64 k, .int .i64 x.num, str x.txt, .slice ka x.kids.length kc, .int .i64 x.at_] (by decide)
 obtain ⟨w1, hw1⟩ : ∃ w1, w1 = w.alloc (.cells #[.int .i64 k, .int .i64 x.num, str x.txt, .slice ka x.kids.length kc, .int .i64 x.at_] 67) := ⟨_, rfl⟩
 rw [← hw1] at s1
 have xf : ∀ o, w1.frozen? ⟨w.heap.size, o, none⟩ = false := fun o => by simp [World.frozen?, s1.box]
 obtain ⟨x0, x1, x2, x3, x4⟩ := cx5 (s1).box
 have HW1 := hide hw1
 have S1 := hide s1
 clear h hw1 s1
 go_enter Tryz.func149, Tryz.ntmps149
 go_upto_region 1 with fail
 rw [← Qa HW1]
 have hp := Qa HX _ _ _ [.int .i64 k, .int .i64 x.num, str x.txt, .slice ka x.kids.length kc, .int .i64 x.at_] (Qae.same _ _ _ _ _ (Qa HC) (Qa S1).kept.below.size (fun q hq _ => (Qa S1).kept.below.block q hq)) (Qa S1).wr
 go_wp2_with fail
 refine hp.mono ?_
 clear hp x0 x1 x2 x3 x4 xf
 intro en w2 ha
 obtain ⟨rfl, c2, l2, s2⟩ := (Qa S1).step ha
 obtain ⟨x0, x1, x2, x3, x4⟩ := cx5 (s2).box
 have S2 := hide s2
 clear s2 ha
 go_wp2_with fail
 go_end0
 exact (Qa S2).fin (by simp [opdT, Qa H5])
theorem Qm {B b : Nat} (x : Ex) (hs : Sh x.txt) (hx : ∀ y ∈ x.kids, PtM 101 B b PE y (exT y)) : PtM 130 B b PE x (opT x.txt (x.kids.map Ex.kind) (exTs x.kids)) := by
 intro w c lg cs hcs h
 have HC := hide hcs
 obtain ⟨_, rfl, ⟨ka, kc, rfl⟩, hkl⟩ := ExS.cells hcs
 clear hcs
 have HX := hide hx
 have HS := hide hs
 have HKL := hide hkl
 clear hx hkl hs
 obtain ⟨kn, hkn⟩ : ∃ kn, x.kids.length = kn := ⟨_, rfl⟩
 rw [hkn] at HC HKL ⊢
 have HN := hide hkn
 clear hkn
 have s1 := St.start (T := 67) h #[.int .i64 x.kind, .int .i64 x.num, str x.txt, .slice ka kn kc, .int .i64 x.at_] (by decide)
 obtain ⟨w1, hw1⟩ : ∃ w1, w1 = w.alloc (.cells #[.int .i64 x.kind, .int .i64 x.num, str x.txt, .slice ka kn kc, .int .i64 x.at_] 67) := ⟨_, rfl⟩
 rw [← hw1] at s1
 have xf : ∀ o, w1.frozen? ⟨w.heap.size, o, none⟩ = false := fun o => by simp [World.frozen?, s1.box]
 obtain ⟨x0, x1, x2, x3, x4⟩ := cx5 (s1).box
 have HW1 := hide hw1
 have S1 := hide s1
 clear h hw1 s1
 obtain ⟨_, _, hbx, _⟩ := (Qa S1).wr.box
 obtain ⟨_, _, u2, _, uf⟩ := cl3w hbx
 clear hbx
 cases lg
 ·
  by_cases h2 : kn = 2
  ·
   subst h2
   obtain ⟨y, z, hyz⟩ : ∃ y z, x.kids = [y, z] := by
    have := Qa HN
    match hm : x.kids, this with
    | [y, z], _ => exact ⟨y, z, rfl⟩
   have hL := Qa HKL
   obtain ⟨gb, cap, cy, e1, hgb, hS, _, hcy, hy⟩ := hL.elem (j := 0) (x := y) (by rw [hyz]; rfl)
   obtain ⟨gb2, cap2, cz, e2, _, _, _, hcz, hz⟩ := hL.elem (j := 1) (x := z) (by rw [hyz]; rfl)
   simp only [Value.slice.injEq] at e1 e2
   obtain ⟨rfl, -, -⟩ := e1
   obtain ⟨e2, -, -⟩ := e2
   cases e2
   have HCy := hide hcy
   obtain ⟨_, rfl, ⟨ya, yc, rfl⟩, _⟩ := ExS.cells hcy
   have HCz := hide hcz
   obtain ⟨_, rfl, ⟨za, zc, rfl⟩, _⟩ := ExS.cells hcz
   have HY := hide (Ya hy (Ya hz hS))
   have HYZ := hide hyz
   clear hcy hcz hy hz hgb hyz hL hS
   go_enter Tryz.func130, Tryz.ntmps130
   go_upto_region 1 with fail
   rw [← Qa HW1]
   obtain ⟨v0, v1, v2, v3, v4⟩ : w1.cell? ⟨gb, 0, none⟩ = some (.int .i64 y.kind) ∧ w1.cell? ⟨gb, 1, none⟩ = some (.int .i64 y.num) ∧ w1.cell? ⟨gb, 2, none⟩ = some (str y.txt) ∧ w1.cell? ⟨gb, 3, none⟩ = some (.slice ya y.kids.length yc) ∧ w1.cell? ⟨gb, 4, none⟩ = some (.int .i64 y.at_) := by
    have hc := fun q c hq => ((Qa S1).kept.below.cell (p := ⟨gb, _, none⟩) (Qa HY).2.2).trans ((Qa HY).1 q c hq)
    exact ⟨hc 0 _ rfl, hc 1 _ rfl, hc 2 _ rfl, hc 3 _ rfl, hc 4 _ rfl⟩
   have hp := Qhi y (Qa HX y (by rw [Qa HYZ]; simp)) _ _ _ [.int .i64 y.kind, .int .i64 y.num, str y.txt, .slice ya y.kids.length yc, .int .i64 y.at_] (Qae.same _ _ _ _ _ (Qa HCy) (Qa S1).kept.below.size (fun q hq _ => (Qa S1).kept.below.block q hq)) (Qa S1).wr
   go_wp2_with fail
   refine hp.mono ?_
   clear hp x0 x1 x2 x3 x4 xf
   intro en w2 ha
   obtain ⟨rfl, c2, l2, s2⟩ := (Qa S1).step ha
   obtain ⟨x0, x1, x2, x3, x4⟩ := cx5 (s2).box
   have S2 := hide s2
   clear s2 ha
   clear v0 v1 v2 v3 v4 u2 uf
   have hp := (Qa S2).put [[32], x.txt, [32]] #[.string ⟨#[32]⟩, str x.txt, .string ⟨#[32]⟩] (n := 3) rfl rfl (by
    intro u hu
    simp only [List.mem_cons, List.not_mem_nil, or_false] at hu
    rcases hu with rfl | rfl | rfl
    · show ([32] : Txt).length ≤ 140737488355328; decide
    · exact Qa HS
    · show ([32] : Txt).length ≤ 140737488355328; decide) (by decide)
   go_wp2_with fail
   refine hp.mono ?_
   clear hp x0 x1 x2 x3 x4
   rintro en w3 ⟨rfl, c3, l3, s3⟩
   obtain ⟨x0, x1, x2, x3, x4⟩ := cx5 (s3).box
   have S3 := hide s3
   clear s3
   obtain ⟨v0, v1, v2, v3, v4⟩ : w3.cell? ⟨gb, 5, none⟩ = some (.int .i64 z.kind) ∧ w3.cell? ⟨gb, 6, none⟩ = some (.int .i64 z.num) ∧ w3.cell? ⟨gb, 7, none⟩ = some (str z.txt) ∧ w3.cell? ⟨gb, 8, none⟩ = some (.slice za z.kids.length zc) ∧ w3.cell? ⟨gb, 9, none⟩ = some (.int .i64 z.at_) := by
    have hc := fun q c hq => ((Qa S3).kept.below.cell (p := ⟨gb, _, none⟩) (Qa HY).2.2).trans ((Qa HY).2.1 q c hq)
    exact ⟨hc 0 _ rfl, hc 1 _ rfl, hc 2 _ rfl, hc 3 _ rfl, hc 4 _ rfl⟩
   have hp := Qhi z (Qa HX z (by rw [Qa HYZ]; simp)) _ _ _ [.int .i64 z.kind, .int .i64 z.num, str z.txt, .slice za z.kids.length zc, .int .i64 z.at_] (Qae.same _ _ _ _ _ (Qa HCz) (Qa S3).kept.below.size (fun q hq _ => (Qa S3).kept.below.block q hq)) (Qa S3).wr
   go_wp2_with fail
   refine hp.mono ?_
   clear hp x0 x1 x2 x3 x4
   intro en w4 ha
   obtain ⟨rfl, c4, l4, s4⟩ := (Qa S3).step ha
   obtain ⟨x0, x1, x2, x3, x4⟩ := cx5 (s4).box
   have S4 := hide s4
   clear s4 ha
   go_wp2_with fail
   go_end0
   exact (Qa S4).fin (by rw [Qa HYZ]; simp [opT, exTs])
  have g2 : ((kn : Int) == 2) = false := by simp; omega
  have H2 := hide h2
  clear h2
  go_enter Tryz.func130, Tryz.ntmps130
  go_upto_region 1 with fail
  rw [← Qa HW1]
  go_wp2_with fail
  go_end0
  refine (Qa S1).fin ?_
  have := Qa HN
  have h2 := Qa H2
  match hm : x.kids, this with
  | [], _ => rfl
  | [_], _ => rfl
  | [_, _], e => exact absurd e.symm h2
  | _ :: _ :: _ :: _, _ => rfl
 go_enter Tryz.func130, Tryz.ntmps130
 go_upto_region 1 with fail
 rw [← Qa HW1]
 go_wp2_with fail
 go_end0
 exact ⟨rfl, (Qa S1).kept, _, _, (Qa S1).wr, (Qa S1).wt.long _⟩
theorem Qjd {B b : Nat} (x : Ex) (hx : ShE x) : PtM 101 B b PE x (exT x) := by
 induction hx with
 | mk k n s ks a hs h0 h1 hk ih =>
  intro w c lg cs hcs h
  have HC := hide hcs
  obtain ⟨_, rfl, ⟨ka, kc, rfl⟩, hkl⟩ := ExS.cells hcs
  simp only [Ex.kind, Ex.num, Ex.txt, Ex.kids, Ex.at_] at HC hkl ⊢
  have HN := hide (Ya (show -9223372036854775808 ≤ n by omega) h1)
  have HS := hide hs
  have HI := hide ih
  have HL := hide hkl
  clear hcs h0 h1 hs hk ih hkl
  by_cases e1 : k = 1
  ·
   subst e1
   have s1 := St.start (T := 67) h #[.int .i64 1, .int .i64 n, str s, .slice ka ks.length kc, .int .i64 a] (by decide)
   obtain ⟨w1, hw1⟩ : ∃ w1, w1 = w.alloc (.cells #[.int .i64 1, .int .i64 n, str s, .slice ka ks.length kc, .int .i64 a] 67) := ⟨_, rfl⟩
   rw [← hw1] at s1
   have xf : ∀ o, w1.frozen? ⟨w.heap.size, o, none⟩ = false := fun o => by simp [World.frozen?, s1.box]
   obtain ⟨x0, x1, x2, x3, x4⟩ := cx5 (s1).box
   have HW1 := hide hw1
   have S1 := hide s1
   clear h hw1 s1
   go_enter Tryz.func101, Tryz.ntmps101
   go_upto_region 1 with fail
   rw [← Qa HW1]
   have hp := (Qa S1).addT s (Qfu (Qa HS))
   go_wp2_with fail
   refine hp.mono ?_
   clear hp x0 x1 x2 x3 x4 xf
   rintro en w2 ⟨rfl, c2, l2, s2⟩
   obtain ⟨x0, x1, x2, x3, x4⟩ := cx5 (s2).box
   have S2 := hide s2
   clear s2
   go_wp2_with fail
   go_end0
   exact (Qa S2).fin (by simp [exT])
  have g1 : (k == 1) = false := by simpa using e1
  by_cases e2 : k = 2
  ·
   subst e2
   have s1 := St.start (T := 67) h #[.int .i64 2, .int .i64 n, str s, .slice ka ks.length kc, .int .i64 a] (by decide)
   obtain ⟨w1, hw1⟩ : ∃ w1, w1 = w.alloc (.cells #[.int .i64 2, .int .i64 n, str s, .slice ka ks.length kc, .int .i64 a] 67) := ⟨_, rfl⟩
   rw [← hw1] at s1
   have xf : ∀ o, w1.frozen? ⟨w.heap.size, o, none⟩ = false := fun o => by simp [World.frozen?, s1.box]
   obtain ⟨x0, x1, x2, x3, x4⟩ := cx5 (s1).box
   have HW1 := hide hw1
   have S1 := hide s1
   clear h hw1 s1
   go_enter Tryz.func101, Tryz.ntmps101
   go_upto_region 1 with fail
   rw [← Qa HW1]
   have hq := Qpc n (Qa HN).1 (Qa HN).2 w1 (Qa S1).wr.tbl.1
   go_wp2_with fail
   refine hq.mono ?_
   clear hq x0 x1 x2 x3 x4 xf
   rintro en w2 ⟨rfl, b2⟩
   have S2 := hide ((Qa S1).later b2)
   clear b2
   have hp := (Qa S2).add ⟨(Lib.itoa n).toArray⟩ (by have := Jao (Qa HN).1 (Qa HN).2; simp [ByteArray.size]; omega)
   go_wp2_with fail
   refine hp.mono ?_
   clear hp
   rintro en w3 ⟨rfl, c3, l3, s3⟩
   have S3 := hide s3
   clear s3
   go_wp2_with fail
   go_end0
   exact (Qa S3).fin (by simp [exT])
  have g2 : (k == 2) = false := by simpa using e2
  by_cases e3 : k = 3
  ·
   subst e3
   have s1 := St.start (T := 67) h #[.int .i64 3, .int .i64 n, str s, .slice ka ks.length kc, .int .i64 a] (by decide)
   obtain ⟨w1, hw1⟩ : ∃ w1, w1 = w.alloc (.cells #[.int .i64 3, .int .i64 n, str s, .slice ka ks.length kc, .int .i64 a] 67) := ⟨_, rfl⟩
   rw [← hw1] at s1
   have xf : ∀ o, w1.frozen? ⟨w.heap.size, o, none⟩ = false := fun o => by simp [World.frozen?, s1.box]
   obtain ⟨x0, x1, x2, x3, x4⟩ := cx5 (s1).box
   have HW1 := hide hw1
   have S1 := hide s1
   clear h hw1 s1
   go_enter Tryz.func101, Tryz.ntmps101
   go_upto_region 1 with fail
   rw [← Qa HW1]
   have hq := Qpo s (Qa HS) w1
   go_wp2_with fail
   refine hq.mono ?_
   clear hq x0 x1 x2 x3 x4 xf
   rintro en w2 ⟨rfl, b2⟩
   have S2 := hide ((Qa S1).later b2)
   clear b2
   have hp := (Qa S2).addT (qtT s) (by have := qtT_len s; have := Qa HS; show (qtT s).length ≤ _; omega)
   go_wp2_with fail
   refine hp.mono ?_
   clear hp
   rintro en w3 ⟨rfl, c3, l3, s3⟩
   have S3 := hide s3
   clear s3
   go_wp2_with fail
   go_end0
   exact (Qa S3).fin (by simp [exT])
  have g3 : (k == 3) = false := by simpa using e3
  by_cases e4 : k = 4
  ·
   subst e4
   have s1 := St.start (T := 67) h #[.int .i64 4, .int .i64 n, str s, .slice ka ks.length kc, .int .i64 a] (by decide)
   obtain ⟨w1, hw1⟩ : ∃ w1, w1 = w.alloc (.cells #[.int .i64 4, .int .i64 n, str s, .slice ka ks.length kc, .int .i64 a] 67) := ⟨_, rfl⟩
   rw [← hw1] at s1
   have xf : ∀ o, w1.frozen? ⟨w.heap.size, o, none⟩ = false := fun o => by simp [World.frozen?, s1.box]
   obtain ⟨x0, x1, x2, x3, x4⟩ := cx5 (s1).box
   have HW1 := hide hw1
   have S1 := hide s1
   clear h hw1 s1
   go_enter Tryz.func101, Tryz.ntmps101
   go_upto_region 1 with fail
   rw [← Qa HW1]
   have hp := (Qa S1).add ⟨#[95]⟩ (by decide)
   go_wp2_with fail
   refine hp.mono ?_
   clear hp x0 x1 x2 x3 x4 xf
   rintro en w2 ⟨rfl, c2, l2, s2⟩
   obtain ⟨x0, x1, x2, x3, x4⟩ := cx5 (s2).box
   have S2 := hide s2
   clear s2
   go_wp2_with fail
   go_end0
   exact (Qa S2).fin (by simp [exT])
  have g4 : (k == 4) = false := by simpa using e4
  by_cases e5 : k = 5
  ·
   subst e5
   have s1 := St.start (T := 67) h #[.int .i64 5, .int .i64 n, str s, .slice ka ks.length kc, .int .i64 a] (by decide)
   obtain ⟨w1, hw1⟩ : ∃ w1, w1 = w.alloc (.cells #[.int .i64 5, .int .i64 n, str s, .slice ka ks.length kc, .int .i64 a] 67) := ⟨_, rfl⟩
   rw [← hw1] at s1
   have xf : ∀ o, w1.frozen? ⟨w.heap.size, o, none⟩ = false := fun o => by simp [World.frozen?, s1.box]
   obtain ⟨x0, x1, x2, x3, x4⟩ := cx5 (s1).box
   have HW1 := hide hw1
   have S1 := hide s1
   clear h hw1 s1
   go_enter Tryz.func101, Tryz.ntmps101
   go_upto_region 1 with fail
   rw [← Qa HW1]
   have hp := Qm (.mk 5 n s ks a) (Qfu (Qa HS)) (Qa HI) _ _ _ [.int .i64 5, .int .i64 n, str s, .slice ka ks.length kc, .int .i64 a] (Qae.same _ _ _ _ _ (Qa HC) (Qa S1).kept.below.size (fun q hq _ => (Qa S1).kept.below.block q hq)) (Qa S1).wr
   go_wp2_with fail
   refine hp.mono ?_
   clear hp x0 x1 x2 x3 x4 xf
   intro en w2 ha
   obtain ⟨rfl, c2, l2, s2⟩ := (Qa S1).step ha
   obtain ⟨x0, x1, x2, x3, x4⟩ := cx5 (s2).box
   have S2 := hide s2
   clear s2 ha
   go_wp2_with fail
   go_end0
   exact (Qa S2).fin (by simp [exT, Ex.txt, Ex.kids])
  have g5 : (k == 5) = false := by simpa using e5
  by_cases e6 : k = 6
  ·
   subst e6
   have s1 := St.start (T := 67) h #[.int .i64 6, .int .i64 n, str s, .slice ka ks.length kc, .int .i64 a] (by decide)
   obtain ⟨w1, hw1⟩ : ∃ w1, w1 = w.alloc (.cells #[.int .i64 6, .int .i64 n, str s, .slice ka ks.length kc, .int .i64 a] 67) := ⟨_, rfl⟩
   rw [← hw1] at s1
   have xf : ∀ o, w1.frozen? ⟨w.heap.size, o, none⟩ = false := fun o => by simp [World.frozen?, s1.box]
   obtain ⟨x0, x1, x2, x3, x4⟩ := cx5 (s1).box
   have HW1 := hide hw1
   have S1 := hide s1
   clear h hw1 s1
   go_enter Tryz.func101, Tryz.ntmps101
   go_upto_region 1 with fail
   rw [← Qa HW1]
   have hp := (Qa S1).put [[36], s, [40]] #[.string ⟨#[36]⟩, str s, .string ⟨#[40]⟩] (n := 3) rfl rfl (by
    intro u hu
    simp only [List.mem_cons, List.not_mem_nil, or_false] at hu
    rcases hu with rfl | rfl | rfl
    · show ([36] : Txt).length ≤ 140737488355328; decide
    · exact Qfu (Qa HS)
    · show ([40] : Txt).length ≤ 140737488355328; decide) (by decide)
   go_wp2_with fail
   refine hp.mono ?_
   clear hp x0 x1 x2 x3 x4 xf
   rintro en w2 ⟨rfl, c2, l2, s2⟩
   obtain ⟨x0, x1, x2, x3, x4⟩ := cx5 (s2).box
   have S2 := hide s2
   clear s2
   have hp := Qkd (Qa S2).wr ⟨#[44, 32]⟩ (by decide) ((Qa HL).same Qae (Qa S2).kept.below.size (fun q hq _ => (Qa S2).kept.below.block q hq)) exT (Qa HI) (Qa HL).len
   go_wp2_with fail
   refine hp.mono ?_
   clear hp x0 x1 x2 x3 x4
   intro en w3 ha
   obtain ⟨rfl, c3, l3, s3⟩ := (Qa S2).step ha
   obtain ⟨x0, x1, x2, x3, x4⟩ := cx5 (s3).box
   have S3 := hide s3
   clear s3 ha
   have hp := (Qa S3).add ⟨#[41]⟩ (by decide)
   go_wp2_with fail
   refine hp.mono ?_
   clear hp x0 x1 x2 x3 x4
   rintro en w4 ⟨rfl, c4, l4, s4⟩
   obtain ⟨x0, x1, x2, x3, x4⟩ := cx5 (s4).box
   have S4 := hide s4
   clear s4
   go_wp2_with fail
   go_end0
   exact (Qa S4).fin (by simp [exT, Qou])
  have g6 : (k == 6) = false := by simpa using e6
  have HE := hide (Ya e1 (Ya e2 (Ya e3 (Ya e4 (Ya e5 e6)))))
  clear e1 e2 e3 e4 e5 e6
  have s1 := St.start (T := 67) h #[.int .i64 k, .int .i64 n, str s, .slice ka ks.length kc, .int .i64 a] (by decide)
  obtain ⟨w1, hw1⟩ : ∃ w1, w1 = w.alloc (.cells #[.int .i64 k, .int .i64 n, str s, .slice ka ks.length kc, .int .i64 a] 67) := ⟨_, rfl⟩
  rw [← hw1] at s1
  have xf : ∀ o, w1.frozen? ⟨w.heap.size, o, none⟩ = false := fun o => by simp [World.frozen?, s1.box]
  obtain ⟨x0, x1, x2, x3, x4⟩ := cx5 (s1).box
  have HW1 := hide hw1
  have S1 := hide s1
  clear h hw1 s1
  go_enter Tryz.func101, Tryz.ntmps101
  go_upto_region 1 with fail
  rw [← Qa HW1]
  go_wp2_with fail
  go_end0
  obtain ⟨e1, e2, e3, e4, e5, e6⟩ := Qa HE
  exact (Qa S1).fin (by simp [exT, e1, e2, e3, e4, e5, e6])
end
section
open Go.RowKit Go.Maps
theorem Qgo {w : World} {b o : Nat} {c0 c1 c2 c3 c4 c5 c6 c7 c8 c9 c10 c11 c12 c13 c14 c15 : Value} (h : ∀ q c, ([c0, c1, c2, c3, c4, c5, c6, c7, c8, c9, c10, c11, c12, c13, c14, c15] : List Value)[q]? = some c → w.cell? ⟨b, o + q, none⟩ = some c) : (ltLoad (.pointer (some ⟨b, o, none⟩))).run Tryz.prog w = .ok (.agg #[c0, c1, c2, c3, c4, c5, c6, c7, c8, c9, c10, c11, c12, c13, c14, c15]) w :=
 run_loadAt_mid w b o 69 [c0, c1, c2, c3, c4, c5, c6, c7, c8, c9, c10, c11, c12, c13, c14, c15] _ (fun q v hq => h q v hq) Tryz.underlying69 rfl Qiz
theorem Qkf (w : World) {c0 c1 c2 c3 c4 c5 c6 c7 c8 c9 c10 c11 c12 c13 c14 c15 : Value} (h1 : ∀ c ∈ ([c0, c1, c2, c3, c4, c5, c6, c7, c8, c9, c10, c11, c12, c13, c14, c15] : List Value), c.oneCell' = true) : (ltStore (.pointer (some ⟨w.heap.size, 0, none⟩)) (.agg #[c0, c1, c2, c3, c4, c5, c6, c7, c8, c9, c10, c11, c12, c13, c14, c15])).run Tryz.prog (w.alloc ltZ) = .ok () (w.alloc (.cells #[c0, c1, c2, c3, c4, c5, c6, c7, c8, c9, c10, c11, c12, c13, c14, c15] 69)) :=
 run_storeAt_new w 69 _ _ Qiz rfl (by simpa using h1)
theorem Que {cs : List Value} (h : cs.length = 16) : ∃ c0 c1 c2 c3 c4 c5 c6 c7 c8 c9 c10 c11 c12 c13 c14 c15, cs = [c0, c1, c2, c3, c4, c5, c6, c7, c8, c9, c10, c11, c12, c13, c14, c15] := by
 match cs, h with
 | [c0, c1, c2, c3, c4, c5, c6, c7, c8, c9, c10, c11, c12, c13, c14, c15], _ => exact ⟨c0, c1, c2, c3, c4, c5, c6, c7, c8, c9, c10, c11, c12, c13, c14, c15, rfl⟩
attribute [local go_sem ↓] Qed Qdf
theorem Qud {B b : Nat} {c : Txt} {lg : Bool} {w : World} (h : Wr B b c lg w) (sep : ByteArray) (hsep : sep.size ≤ 64) {sa : Option Addr} {sc : Nat} {xs : List Lt} (hL : LsAt PLt 16 (fun q => q < B) w (.slice sa xs.length sc) xs) (T : Lt → Txt) (hW : ∀ x ∈ xs, PtM 71 B b PLt x (T x)) (hx : xs.length ≤ 9223372036854775807) :
  Calls Tryz.prog 70 #[.pointer (some ⟨b, 0, none⟩), .string sep, .slice sa xs.length sc, .func (.func 71) #[.pointer (some ⟨b, 0, none⟩)] #[]] w fun e w' => WrA B b c lg (joinT sep.data.toList (xs.map T)) w e w' := by
 have HH := hide h
 have HL := hide hL
 have HW := hide hW
 obtain ⟨n, hn⟩ : ∃ n, xs.length = n := ⟨_, rfl⟩
 rw [hn]
 have HN := hide hn
 have hn6 : n ≤ 9223372036854775807 := by omega
 clear h hL hW hn hx
 go_enter Tryz.func70, Tryz.ntmps70
 go_wp2_with fail
 go_loopw [12] (fun v wr => ∃ (j : Nat) (c1 : Txt) (l1 : Bool), v = .int .i64 (j : Int) ∧ j ≤ n ∧ Hid (Kept B b w wr ∧ Wr B b c1 l1 wr ∧ WT c lg (joinT sep.data.toList ((xs.map T).take j)) c1 l1)) (fun v _ => n - (intOf v).toNat)
 case atStart => exact ⟨0, c, lg, rfl, Nat.zero_le _, hide ⟨Kept.refl _ _ _, Qa HH, WT.refl _ _ (Qa HH).few⟩⟩
 obtain ⟨j, t1, l1, rfl, hj, HI⟩ := hrel
 by_cases hlt : j < n
 ·
  obtain ⟨x, hxj⟩ : ∃ x, xs[j]? = some x := ⟨xs[j]'(by rw [Qa HN]; exact hlt), List.getElem?_eq_getElem _⟩
  obtain ⟨gb, cap, cs, e1, hgb, hS, hl, hcs, hc⟩ := ((Qa HL).same Qbt (Qa HI).1.below.size (fun q hq _ => (Qa HI).1.below.block q hq)).elem hxj
  obtain ⟨c0, c1, c2, c3, c4, c5, c6, c7, c8, c9, c10, c11, c12, c13, c14, c15, rfl⟩ := Que hl
  simp only [Value.slice.injEq] at e1
  obtain ⟨rfl, -, -⟩ := e1
  have hwx := Qa HW x (List.mem_of_getElem? hxj)
  have htk : (xs.map T).take (j + 1) = (xs.map T).take j ++ [T x] := by rw [List.take_add_one, List.getElem?_map, hxj]; rfl
  have htn : j ≠ 0 → (xs.map T).take j ≠ [] := fun h0 e => by
   have := congrArg List.length e
   rw [List.length_take, List.length_map, Qa HN] at this
   simp at this
   omega
  have hB : B ≤ wr.heap.size := (Qa HI).2.1.hB
  obtain ⟨w2, hw2⟩ : ∃ w2, w2 = wr.alloc (.cells #[c0, c1, c2, c3, c4, c5, c6, c7, c8, c9, c10, c11, c12, c13, c14, c15] 69) := ⟨_, rfl⟩
  have b2 : Below wr.heap.size wr w2 := bnw hw2
  have n2 : w2.heap[wr.heap.size]? = some (.cells #[c0, c1, c2, c3, c4, c5, c6, c7, c8, c9, c10, c11, c12, c13, c14, c15] 69 (0, 0)) := nnw hw2
  have h2 := (Qa HI).2.1.later b2
  have k2 := (Qa HI).1.trans (Kept.later (b := b) hB b2)
  have L1 := Qgo (w := wr) (b := gb) (o := j * 16) hc
  have N1 := Qkf wr (Qgt hcs)
  rw [← hw2] at N1
  have q2 : PLt (fun q => q < B) w2 [c0, c1, c2, c3, c4, c5, c6, c7, c8, c9, c10, c11, c12, c13, c14, c15] x := Qbt.same _ _ _ _ _ hcs b2.size (fun q _ hl => b2.block q hl)
  obtain ⟨p, v, hbx, _⟩ := h2.box
  obtain ⟨_, _, u2, _, uf⟩ := cl3w hbx
  have hxne : wr.heap.size ≠ b := by have := (Qa HI).2.1.lt; omega
  have HK := hide (Ya k2 (Ya h2 (Ya n2 hxne)))
  have HQ := hide q2
  have HTK := hide (Ya htk htn)
  have HWX := hide hwx
  clear q2 hgb hS hc hcs hl hxj hwx htk htn hB hw2 b2 n2 h2 k2 hbx hxne
  cases l1
  ·
   by_cases h0 : j = 0
   ·
    have g0 : ¬ ((0 : Int) < (j : Int)) := by omega
    have L3 := Qgo (w := w2) (b := wr.heap.size) (o := 0) (fun q c hq => by rw [Qab ((Qa HK).2.2.1), Nat.zero_add]; simpa using hq)
    have hcl := Qa HWX w2 t1 false [c0, c1, c2, c3, c4, c5, c6, c7, c8, c9, c10, c11, c12, c13, c14, c15] (Qa HQ) (Qa HK).2.1
    have H0 := hide h0
    clear h0
    go_wp2_with fail
    refine hcl.mono ?_
    clear hcl L1 N1 L3
    rintro en w3 ⟨rfl, k3, t3, l3, h3, e3⟩
    have H3 := hide (Ya k3 (Ya h3 e3))
    clear k3 h3 e3
    go_wp2_with fail
    go_roundw
    case rel =>
     obtain ⟨k3, h3, e3⟩ := Qa H3
     refine ⟨j + 1, t3, l3, by go_num, by omega, hide ⟨(Qa HK).1.trans k3, h3, ?_⟩⟩
     rw [(Qa HTK).1, Qa H0, List.take_zero]
     have q := (Qa HI).2.2
     rw [Qa H0, List.take_zero] at q
     have := q.trans e3
     simpa [joinT] using this
    case measure => simp [intOf]; omega
   have g0 : (0 : Int) < (j : Int) := by omega
   have had := Qbn (Qa HK).2.1 sep (by omega)
   have H0 := hide h0
   clear h0
   go_wp2_with fail
   refine had.mono ?_
   clear had L1 N1
   rintro en w3 ⟨rfl, k3, t3, l3, h3, e3⟩
   have n3 : w3.heap[wr.heap.size]? = some (.cells #[c0, c1, c2, c3, c4, c5, c6, c7, c8, c9, c10, c11, c12, c13, c14, c15] 69 (0, 0)) := k3.others _ _ (Qa HK).2.2.1 (fun e => (Qa HK).2.2.2 (by simpa using e)) (fun c fz e => by cases e)
   have L3 := Qgo (w := w3) (b := wr.heap.size) (o := 0) (fun q c hq => by rw [Qab (n3), Nat.zero_add]; simpa using hq)
   have hcl := Qa HWX w3 t3 l3 [c0, c1, c2, c3, c4, c5, c6, c7, c8, c9, c10, c11, c12, c13, c14, c15] (Qbt.same _ _ _ _ _ (Qa HQ) k3.below.size (fun q hq _ => k3.below.block q hq)) h3
   have H3 := hide (Ya k3 e3)
   clear k3 h3 e3 n3
   go_wp2_with fail
   refine hcl.mono ?_
   clear hcl L3
   rintro en w4 ⟨rfl, k4, t4, l4, h4, e4⟩
   have H4 := hide (Ya k4 (Ya h4 e4))
   clear k4 h4 e4
   go_wp2_with fail
   go_roundw
   case rel =>
    obtain ⟨k3, e3⟩ := Qa H3
    obtain ⟨k4, h4, e4⟩ := Qa H4
    refine ⟨j + 1, t4, l4, by go_num, by omega, hide ⟨((Qa HK).1.trans k3).trans k4, h4, ?_⟩⟩
    rw [(Qa HTK).1, Qec, if_neg ((Qa HTK).2 (Qa H0))]
    exact ((Qa HI).2.2.trans e3).trans e4
   case measure => simp [intOf]; omega
  go_wp2_with fail
  go_end0
  obtain ⟨k2, h2, _⟩ := Qa HK
  refine ⟨rfl, k2, t1, true, h2, (Qa HI).2.2.cut ?_⟩
  have := Qge sep.data.toList ((xs.map T).take j) ((xs.map T).drop j)
  rwa [List.take_append_drop] at this
 have ej : j = n := by omega
 have HE := hide (show (xs.map T).take j = xs.map T by rw [ej, ← Qa HN, ← List.length_map (f := T)]; exact List.take_length)
 clear ej
 go_wp2_with fail
 go_end0
 refine ⟨rfl, (Qa HI).1, t1, l1, (Qa HI).2.1, ?_⟩
 have := (Qa HI).2.2
 rw [Qa HE] at this
 exact this
end
section
open Go.RowKit Go.Maps
def amT (x : Atm) : Txt := (x.rel ++ [40]) ++ joinT [44, 32] (x.args.map exT) ++ [41]
def ltT (x : Lt) : Txt := if x.kind = 1 then amT x.atom else if x.kind = 2 then [33] ++ amT x.atom else if x.kind = 3 then exT x.l ++ ([32] ++ x.op ++ [32]) ++ exT x.r else []
def clT (x : Cls) : Txt := amT x.head ++ (if x.body = [] then [] else [32, 58, 45, 32] ++ joinT [44, 32] (x.body.map ltT)) ++ [46]
def ShA (x : Atm) : Prop := Sh x.rel ∧ ∀ e ∈ x.args, ShE e
def ShL (x : Lt) : Prop := ShA x.atom ∧ Sh x.op ∧ ShE x.l ∧ ShE x.r
def ShCl (x : Cls) : Prop := ShA x.head ∧ ∀ l ∈ x.body, ShL l
theorem Qgn {B b : Nat} {c : Txt} {lg : Bool} {w : World} (h : Wr B b c lg w) (x : Atm) (hx : ShA x) {aa : Option Addr} {ac : Nat} (hL : LsAt PE 5 (fun q => q < B) w (.slice aa x.args.length ac) x.args) :
  Calls Tryz.prog 69 #[.pointer (some ⟨b, 0, none⟩), .agg #[str x.rel, .slice aa x.args.length ac, .int .i64 x.at_]] w fun e w' => WrA B b c lg (amT x) w e w' := by
 have HL := hide hL
 have HX := hide hx
 clear hL hx
 have s1 := St.start (T := 61) h #[str x.rel, .slice aa x.args.length ac, .int .i64 x.at_] (by decide)
 obtain ⟨w1, hw1⟩ : ∃ w1, w1 = w.alloc (.cells #[str x.rel, .slice aa x.args.length ac, .int .i64 x.at_] 61) := ⟨_, rfl⟩
 rw [← hw1] at s1
 have xf : ∀ o, w1.frozen? ⟨w.heap.size, o, none⟩ = false := fun o => by simp [World.frozen?, s1.box]
 obtain ⟨x0, x1, x2⟩ := cx3 (s1).box
 have HW1 := hide hw1
 have S1 := hide s1
 clear h hw1 s1
 go_enter Tryz.func69, Tryz.ntmps69
 go_upto_region 1 with fail
 rw [← Qa HW1]
 have hp := (Qa S1).put [x.rel, [40]] #[str x.rel, .string ⟨#[40]⟩] (n := 2) rfl rfl (by
  intro u hu
  simp only [List.mem_cons, List.not_mem_nil, or_false] at hu
  rcases hu with rfl | rfl
  · exact (Qa HX).1
  · show ([40] : Txt).length ≤ 140737488355328; decide) (by decide)
 go_wp2_with fail
 refine hp.mono ?_
 clear hp x0 x1 x2 xf
 rintro en w2 ⟨rfl, c2, l2, s2⟩
 obtain ⟨x0, x1, x2⟩ := cx3 (s2).box
 have S2 := hide s2
 clear s2
 have hp := Qkd (Qa S2).wr ⟨#[44, 32]⟩ (by decide) ((Qa HL).same Qae (Qa S2).kept.below.size (fun q hq _ => (Qa S2).kept.below.block q hq)) exT (fun y hy => Qjd y ((Qa HX).2 y hy)) (Qa HL).len
 go_wp2_with fail
 refine hp.mono ?_
 clear hp x0 x1 x2
 intro en w3 ha
 obtain ⟨rfl, c3, l3, s3⟩ := (Qa S2).step ha
 obtain ⟨x0, x1, x2⟩ := cx3 (s3).box
 have S3 := hide s3
 clear s3 ha
 have hp := (Qa S3).add ⟨#[41]⟩ (by decide)
 go_wp2_with fail
 refine hp.mono ?_
 clear hp x0 x1 x2
 rintro en w4 ⟨rfl, c4, l4, s4⟩
 obtain ⟨x0, x1, x2⟩ := cx3 (s4).box
 have S4 := hide s4
 clear s4
 go_wp2_with fail
 go_end0
 exact (Qa S4).fin (by simp [amT])
theorem Jbw {B b : Nat} (x : Lt) (hx : ShL x) : PtM 71 B b PLt x (ltT x) := by
 intro w c lg cs hcs h
 obtain ⟨aa, an, ac, xa, xn, xc, ya, yn, yc, rfl, hA, hl, hr⟩ := hcs
 obtain ⟨_, _, e⟩ := hA.sl
 cases e
 have HA := hide hA
 have HL := hide hl
 have HR := hide hr
 have HX := hide hx
 clear hA hl hr hx
 obtain ⟨k, hk⟩ : ∃ k, x.kind = k := ⟨_, rfl⟩
 rw [hk]
 have HK := hide hk
 clear hk
 by_cases e1 : k = 1
 ·
  subst e1
  have s1 := St.start (T := 69) h #[.int .i64 1, str x.atom.rel, .slice aa x.atom.args.length ac, .int .i64 x.atom.at_, str x.op, .int .i64 x.l.kind, .int .i64 x.l.num, str x.l.txt, .slice xa xn xc, .int .i64 x.l.at_, .int .i64 x.r.kind, .int .i64 x.r.num, str x.r.txt, .slice ya yn yc, .int .i64 x.r.at_, .int .i64 x.at_] (by decide)
  obtain ⟨w1, hw1⟩ : ∃ w1, w1 = w.alloc (.cells #[.int .i64 1, str x.atom.rel, .slice aa x.atom.args.length ac, .int .i64 x.atom.at_, str x.op, .int .i64 x.l.kind, .int .i64 x.l.num, str x.l.txt, .slice xa xn xc, .int .i64 x.l.at_, .int .i64 x.r.kind, .int .i64 x.r.num, str x.r.txt, .slice ya yn yc, .int .i64 x.r.at_, .int .i64 x.at_] 69) := ⟨_, rfl⟩
  rw [← hw1] at s1
  have xf : ∀ o, w1.frozen? ⟨w.heap.size, o, none⟩ = false := fun o => by simp [World.frozen?, s1.box]
  obtain ⟨x0, x1, x2, x3, x4, x5, x6, x7, x8, x9, x10, x11, x12, x13, x14, x15⟩ := cx16 (s1).box
  have HW1 := hide hw1
  have S1 := hide s1
  clear h hw1 s1
  go_enter Tryz.func71, Tryz.ntmps71
  go_upto_region 1 with fail
  rw [← Qa HW1]
  have hp := Qgn (Qa S1).wr x.atom (Qa HX).1 ((Qa HA).same Qae (Qa S1).kept.below.size (fun q hq _ => (Qa S1).kept.below.block q hq))
  go_wp2_with fail
  refine hp.mono ?_
  clear hp x0 x1 x2 x3 x4 x5 x6 x7 x8 x9 x10 x11 x12 x13 x14 x15 xf
  intro en w2 ha
  obtain ⟨rfl, c2, l2, s2⟩ := (Qa S1).step ha
  obtain ⟨x0, x1, x2, x3, x4, x5, x6, x7, x8, x9, x10, x11, x12, x13, x14, x15⟩ := cx16 (s2).box
  have S2 := hide s2
  clear s2 ha
  go_wp2_with fail
  go_end0
  exact (Qa S2).fin (by simp [ltT, Qa HK])
 have g1 : (k == 1) = false := by simpa using e1
 by_cases e2 : k = 2
 ·
  subst e2
  have s1 := St.start (T := 69) h #[.int .i64 2, str x.atom.rel, .slice aa x.atom.args.length ac, .int .i64 x.atom.at_, str x.op, .int .i64 x.l.kind, .int .i64 x.l.num, str x.l.txt, .slice xa xn xc, .int .i64 x.l.at_, .int .i64 x.r.kind, .int .i64 x.r.num, str x.r.txt, .slice ya yn yc, .int .i64 x.r.at_, .int .i64 x.at_] (by decide)
  obtain ⟨w1, hw1⟩ : ∃ w1, w1 = w.alloc (.cells #[.int .i64 2, str x.atom.rel, .slice aa x.atom.args.length ac, .int .i64 x.atom.at_, str x.op, .int .i64 x.l.kind, .int .i64 x.l.num, str x.l.txt, .slice xa xn xc, .int .i64 x.l.at_, .int .i64 x.r.kind, .int .i64 x.r.num, str x.r.txt, .slice ya yn yc, .int .i64 x.r.at_, .int .i64 x.at_] 69) := ⟨_, rfl⟩
  rw [← hw1] at s1
  have xf : ∀ o, w1.frozen? ⟨w.heap.size, o, none⟩ = false := fun o => by simp [World.frozen?, s1.box]
  obtain ⟨x0, x1, x2, x3, x4, x5, x6, x7, x8, x9, x10, x11, x12, x13, x14, x15⟩ := cx16 (s1).box
  have HW1 := hide hw1
  have S1 := hide s1
  clear h hw1 s1
  go_enter Tryz.func71, Tryz.ntmps71
  go_upto_region 1 with fail
  rw [← Qa HW1]
  have hp := (Qa S1).add ⟨#[33]⟩ (by decide)
  go_wp2_with fail
  refine hp.mono ?_
  clear hp x0 x1 x2 x3 x4 x5 x6 x7 x8 x9 x10 x11 x12 x13 x14 x15 xf
  rintro en w2 ⟨rfl, c2, l2, s2⟩
  obtain ⟨x0, x1, x2, x3, x4, x5, x6, x7, x8, x9, x10, x11, x12, x13, x14, x15⟩ := cx16 (s2).box
  have S2 := hide s2
  clear s2
  have hp := Qgn (Qa S2).wr x.atom (Qa HX).1 ((Qa HA).same Qae (Qa S2).kept.below.size (fun q hq _ => (Qa S2).kept.below.block q hq))
  go_wp2_with fail
  refine hp.mono ?_
  clear hp x0 x1 x2 x3 x4 x5 x6 x7 x8 x9 x10 x11 x12 x13 x14 x15
  intro en w3 ha
  obtain ⟨rfl, c3, l3, s3⟩ := (Qa S2).step ha
  obtain ⟨x0, x1, x2, x3, x4, x5, x6, x7, x8, x9, x10, x11, x12, x13, x14, x15⟩ := cx16 (s3).box
  have S3 := hide s3
  clear s3 ha
  go_wp2_with fail
  go_end0
  exact (Qa S3).fin (by simp [ltT, Qa HK])
 have g2 : (k == 2) = false := by simpa using e2
 by_cases e3 : k = 3
 ·
  subst e3
  have s1 := St.start (T := 69) h #[.int .i64 3, str x.atom.rel, .slice aa x.atom.args.length ac, .int .i64 x.atom.at_, str x.op, .int .i64 x.l.kind, .int .i64 x.l.num, str x.l.txt, .slice xa xn xc, .int .i64 x.l.at_, .int .i64 x.r.kind, .int .i64 x.r.num, str x.r.txt, .slice ya yn yc, .int .i64 x.r.at_, .int .i64 x.at_] (by decide)
  obtain ⟨w1, hw1⟩ : ∃ w1, w1 = w.alloc (.cells #[.int .i64 3, str x.atom.rel, .slice aa x.atom.args.length ac, .int .i64 x.atom.at_, str x.op, .int .i64 x.l.kind, .int .i64 x.l.num, str x.l.txt, .slice xa xn xc, .int .i64 x.l.at_, .int .i64 x.r.kind, .int .i64 x.r.num, str x.r.txt, .slice ya yn yc, .int .i64 x.r.at_, .int .i64 x.at_] 69) := ⟨_, rfl⟩
  rw [← hw1] at s1
  have xf : ∀ o, w1.frozen? ⟨w.heap.size, o, none⟩ = false := fun o => by simp [World.frozen?, s1.box]
  obtain ⟨x0, x1, x2, x3, x4, x5, x6, x7, x8, x9, x10, x11, x12, x13, x14, x15⟩ := cx16 (s1).box
  have HW1 := hide hw1
  have S1 := hide s1
  clear h hw1 s1
  go_enter Tryz.func71, Tryz.ntmps71
  go_upto_region 1 with fail
  rw [← Qa HW1]
  have hp := Qjd x.l (Qa HX).2.2.1 _ _ _ [.int .i64 x.l.kind, .int .i64 x.l.num, str x.l.txt, .slice xa xn xc, .int .i64 x.l.at_] (Qae.same _ _ _ _ _ (Qa HL) (Qa S1).kept.below.size (fun q hq _ => (Qa S1).kept.below.block q hq)) (Qa S1).wr
  go_wp2_with fail
  refine hp.mono ?_
  clear hp x0 x1 x2 x3 x4 x5 x6 x7 x8 x9 x10 x11 x12 x13 x14 x15 xf
  intro en w2 ha
  obtain ⟨rfl, c2, l2, s2⟩ := (Qa S1).step ha
  obtain ⟨x0, x1, x2, x3, x4, x5, x6, x7, x8, x9, x10, x11, x12, x13, x14, x15⟩ := cx16 (s2).box
  have S2 := hide s2
  clear s2 ha
  have hp := (Qa S2).put [[32], x.op, [32]] #[.string ⟨#[32]⟩, str x.op, .string ⟨#[32]⟩] (n := 3) rfl rfl (by
   intro u hu
   simp only [List.mem_cons, List.not_mem_nil, or_false] at hu
   rcases hu with rfl | rfl | rfl
   · show ([32] : Txt).length ≤ 140737488355328; decide
   · exact (Qa HX).2.1
   · show ([32] : Txt).length ≤ 140737488355328; decide) (by decide)
  go_wp2_with fail
  refine hp.mono ?_
  clear hp x0 x1 x2 x3 x4 x5 x6 x7 x8 x9 x10 x11 x12 x13 x14 x15
  rintro en w3 ⟨rfl, c3, l3, s3⟩
  obtain ⟨x0, x1, x2, x3, x4, x5, x6, x7, x8, x9, x10, x11, x12, x13, x14, x15⟩ := cx16 (s3).box
  have S3 := hide s3
  clear s3
  have hp := Qjd x.r (Qa HX).2.2.2 _ _ _ [.int .i64 x.r.kind, .int .i64 x.r.num, str x.r.txt, .slice ya yn yc, .int .i64 x.r.at_] (Qae.same _ _ _ _ _ (Qa HR) (Qa S3).kept.below.size (fun q hq _ => (Qa S3).kept.below.block q hq)) (Qa S3).wr
  go_wp2_with fail
  refine hp.mono ?_
  clear hp x0 x1 x2 x3 x4 x5 x6 x7 x8 x9 x10 x11 x12 x13 x14 x15
  intro en w4 ha
  obtain ⟨rfl, c4, l4, s4⟩ := (Qa S3).step ha
  obtain ⟨x0, x1, x2, x3, x4, x5, x6, x7, x8, x9, x10, x11, x12, x13, x14, x15⟩ := cx16 (s4).box
  have S4 := hide s4
  clear s4 ha
  go_wp2_with fail
  go_end0
  exact (Qa S4).fin (by simp [ltT, Qa HK])
 have g3 : (k == 3) = false := by simpa using e3
 have HE := hide (Ya e1 (Ya e2 e3))
 clear e1 e2 e3
 have s1 := St.start (T := 69) h #[.int .i64 k, str x.atom.rel, .slice aa x.atom.args.length ac, .int .i64 x.atom.at_, str x.op, .int .i64 x.l.kind, .int .i64 x.l.num, str x.l.txt, .slice xa xn xc, .int .i64 x.l.at_, .int .i64 x.r.kind, .int .i64 x.r.num, str x.r.txt, .slice ya yn yc, .int .i64 x.r.at_, .int .i64 x.at_] (by decide)
 obtain ⟨w1, hw1⟩ : ∃ w1, w1 = w.alloc (.cells #[.int .i64 k, str x.atom.rel, .slice aa x.atom.args.length ac, .int .i64 x.atom.at_, str x.op, .int .i64 x.l.kind, .int .i64 x.l.num, str x.l.txt, .slice xa xn xc, .int .i64 x.l.at_, .int .i64 x.r.kind, .int .i64 x.r.num, str x.r.txt, .slice ya yn yc, .int .i64 x.r.at_, .int .i64 x.at_] 69) := ⟨_, rfl⟩
 rw [← hw1] at s1
 have xf : ∀ o, w1.frozen? ⟨w.heap.size, o, none⟩ = false := fun o => by simp [World.frozen?, s1.box]
 obtain ⟨x0, x1, x2, x3, x4, x5, x6, x7, x8, x9, x10, x11, x12, x13, x14, x15⟩ := cx16 (s1).box
 have HW1 := hide hw1
 have S1 := hide s1
 clear h hw1 s1
 go_enter Tryz.func71, Tryz.ntmps71
 go_upto_region 1 with fail
 rw [← Qa HW1]
 go_wp2_with fail
 go_end0
 obtain ⟨e1, e2, e3⟩ := Qa HE
 exact (Qa S1).fin (by simp [ltT, Qa HK, e1, e2, e3])
theorem Qps {B b : Nat} (x : Cls) (hx : ShCl x) : PtM 35 B b PCl x (clT x) := by
 intro w c lg cs hcs h
 obtain ⟨aa, an, ac, ba, bn, bc, rfl, hA, hB⟩ := hcs
 obtain ⟨_, _, e⟩ := hA.sl
 cases e
 obtain ⟨_, _, e⟩ := hB.sl
 cases e
 obtain ⟨bn, hbn⟩ : ∃ bn, x.body.length = bn := ⟨_, rfl⟩
 have HA := hide hA
 have HB := hide hB
 have HX := hide hx
 have HN := hide hbn
 rw [hbn]
 clear hA hB hx hbn
 have s1 := St.start (T := 64) h #[str x.head.rel, .slice aa x.head.args.length ac, .int .i64 x.head.at_, .slice ba bn bc, .int .i64 x.at_] (by decide)
 obtain ⟨w1, hw1⟩ : ∃ w1, w1 = w.alloc (.cells #[str x.head.rel, .slice aa x.head.args.length ac, .int .i64 x.head.at_, .slice ba bn bc, .int .i64 x.at_] 64) := ⟨_, rfl⟩
 rw [← hw1] at s1
 have xf : ∀ o, w1.frozen? ⟨w.heap.size, o, none⟩ = false := fun o => by simp [World.frozen?, s1.box]
 obtain ⟨x0, x1, x2, x3, x4⟩ := cx5 (s1).box
 have HW1 := hide hw1
 have S1 := hide s1
 clear h hw1 s1
 by_cases h0 : bn = 0
 ·
  subst h0
  go_enter Tryz.func35, Tryz.ntmps35
  go_upto_region 1 with fail
  rw [← Qa HW1]
  have hp := Qgn (Qa S1).wr x.head (Qa HX).1 ((Qa HA).same Qae (Qa S1).kept.below.size (fun q hq _ => (Qa S1).kept.below.block q hq))
  go_wp2_with fail
  refine hp.mono ?_
  clear hp x0 x1 x2 x3 x4 xf
  intro en w2 ha
  obtain ⟨rfl, c2, l2, s2⟩ := (Qa S1).step ha
  obtain ⟨x0, x1, x2, x3, x4⟩ := cx5 (s2).box
  have S2 := hide s2
  clear s2 ha
  have hp := (Qa S2).add ⟨#[46]⟩ (by decide)
  go_wp2_with fail
  refine hp.mono ?_
  clear hp x0 x1 x2 x3 x4
  rintro en w3 ⟨rfl, c3, l3, s3⟩
  obtain ⟨x0, x1, x2, x3, x4⟩ := cx5 (s3).box
  have S3 := hide s3
  clear s3
  go_wp2_with fail
  go_end0
  exact (Qa S3).fin (by have := List.length_eq_zero_iff.1 (Qa HN); simp [clT, this])
 have g0 : (0 : Int) < (bn : Int) := by omega
 have H0 := hide h0
 clear h0
 go_enter Tryz.func35, Tryz.ntmps35
 go_upto_region 1 with fail
 rw [← Qa HW1]
 have hp := Qgn (Qa S1).wr x.head (Qa HX).1 ((Qa HA).same Qae (Qa S1).kept.below.size (fun q hq _ => (Qa S1).kept.below.block q hq))
 go_wp2_with fail
 refine hp.mono ?_
 clear hp x0 x1 x2 x3 x4 xf
 intro en w2 ha
 obtain ⟨rfl, c2, l2, s2⟩ := (Qa S1).step ha
 obtain ⟨x0, x1, x2, x3, x4⟩ := cx5 (s2).box
 have S2 := hide s2
 clear s2 ha
 have hp := (Qa S2).add ⟨#[32, 58, 45, 32]⟩ (by decide)
 go_wp2_with fail
 refine hp.mono ?_
 clear hp x0 x1 x2 x3 x4
 rintro en w3 ⟨rfl, c3, l3, s3⟩
 obtain ⟨x0, x1, x2, x3, x4⟩ := cx5 (s3).box
 have S3 := hide s3
 clear s3
 have hq : LsAt PLt 16 (fun q => q < B) w (.slice ba bn bc) x.body := by have := Qa HB; rw [Qa HN] at this; exact this
 have hp := Qud (Qa S3).wr ⟨#[44, 32]⟩ (by decide) ((Qa HB).same Qbt (Qa S3).kept.below.size (fun q hq _ => (Qa S3).kept.below.block q hq)) ltT (fun y hy => Jbw y ((Qa HX).2 y hy)) (Qa HB).len
 rw [Qa HN] at hp
 clear hq
 go_wp2_with fail
 refine hp.mono ?_
 clear hp x0 x1 x2 x3 x4
 intro en w4 ha
 obtain ⟨rfl, c4, l4, s4⟩ := (Qa S3).step ha
 obtain ⟨x0, x1, x2, x3, x4⟩ := cx5 (s4).box
 have S4 := hide s4
 clear s4 ha
 have hp := (Qa S4).add ⟨#[46]⟩ (by decide)
 go_wp2_with fail
 refine hp.mono ?_
 clear hp x0 x1 x2 x3 x4
 rintro en w5 ⟨rfl, c5, l5, s5⟩
 obtain ⟨x0, x1, x2, x3, x4⟩ := cx5 (s5).box
 have S5 := hide s5
 clear s5
 go_wp2_with fail
 go_end0
 exact (Qa S5).fin (by have hb : x.body ≠ [] := fun e => Qa H0 (by rw [← Qa HN, e]; rfl); simp [clT, hb])
end
end Go.Proofs.YtccehgfecaamoaaGreatDoor
