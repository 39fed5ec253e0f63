/- The texts of a number and of a symbol. show's writer: expressions. -/
import Derived.Test.YtccehgfecaamoaaGreatDoorQa24
import Derived.Test.YtccehgfecaamoaaGreatDoorQa22
set_option maxRecDepth 100000
set_option maxHeartbeats 32000000
namespace Go.Proofs.YtccehgfecaamoaaGreatDoor
section
open Go.RowKit Go.Maps
def qtT (s : Txt) : Txt := [34] ++ Trm.escs s ++ [34]
theorem qtT_len (s : Txt) : (qtT s).length ≤ 2 * s.length + 2 := by
 have h := Trm.escs_len s
 unfold qtT
 simp only [List.length_append, List.length_cons, List.length_nil]
 omega
theorem Qsl {n : Int} (h0 : -9223372036854775808 ≤ n) (h1 : n ≤ 9223372036854775807) : (Lib.itoa n).length ≤ 21 := Trm.itoa_len h0 h1
theorem Qka (n : Int) (h0 : -9223372036854775808 ≤ n) (h1 : n ≤ 9223372036854775807) (w : World) (htab : Lib.TabIs Tryz.prog w "internal/strconv.uint64pow10" .u64 Lib.pow10Tab) :
  Calls Tryz.prog 128 #[.int .i64 n] w fun e w' => e = .returned (.string ⟨(Lib.itoa n).toArray⟩) ∧ Below w.heap.size w w' := by
 go_enter Tryz.func128, Tryz.ntmps128
 go_wp2_with (go_at_call 146; refine (Tryz.strconv_Itoa n h0 h1 _ htab).mono ?_; rintro e w' ⟨rfl, k, os, rfl⟩)
 go_ret
 exact ⟨rfl, Lib.below_grow _ _ (Nat.le_refl _) _ _⟩
theorem cl4v {w : World} {b : Nat} {T : TypeId} {v0 v1 v2 v3 : Value} (h : w.heap[b]? = some (.cells #[v0, v1, v2, v3] T (0, 0))) : w.cell? ⟨b, 0, none⟩ = some v0 ∧ w.cell? ⟨b, 1, none⟩ = some v1 ∧ w.cell? ⟨b, 2, none⟩ = some v2 ∧ w.cell? ⟨b, 3, none⟩ = some v3 :=
 ⟨(Qaa h 0).trans rfl, (Qaa h 1).trans rfl, (Qaa h 2).trans rfl, (Qaa h 3).trans rfl⟩
theorem Qki (s : ByteArray) (hs : s.size ≤ 65536) (w : World) (pb : Nat) (hp : w.heap[pb]? = some (.cells #[.int .i64 1024] 3 (0, 0))) :
  Calls Tryz.prog 163 #[.agg #[.int .i64 2, .int .i64 0, .string s, .slice none 0 0], .pointer (some ⟨pb, 0, none⟩), .int .i64 32] w fun e w' => e = .returned (.bool true) ∧ Below pb w w' := by
 have hpl := Qaf hp
 have c0 : ∀ o, (w.alloc o).cell? ⟨pb, 0, none⟩ = some (.int .i64 1024) := fun o => (Qaa ((Below.heap_alloc w o pb hpl).trans hp) 0).trans rfl
 have f0 : ∀ o, (w.alloc o).frozen? ⟨pb, 0, none⟩ = false := fun o => by simp [World.frozen?, (Below.heap_alloc w o pb hpl).trans hp]
 have gd : decide ((s.size : Int) ≤ 65536) = true := decide_eq_true (by omega)
 have HP := hide hpl
 clear hp
 go_enter Tryz.func163, Tryz.ntmps163
 go_wp2_with fail
 go_ret
 refine ⟨rfl, ?_⟩
 have hpl := Qa HP
 exact ((Below.refl pb w).setCell (p := ⟨pb, 0, none⟩) (Nat.le_refl _) _).alloc (by simp [World.setCell]; omega) _
theorem Qjk (s : ByteArray) (hs : s.size ≤ 65536) (w : World) :
  Calls Tryz.prog 147 #[.agg #[.int .i64 2, .int .i64 0, .string s, .slice none 0 0]] w fun e w' => e = .returned (.bool true) ∧ Below w.heap.size w w' := by
 obtain ⟨w1, hw1⟩ : ∃ w1, w1 = (w.alloc (.cells #[.int .i64 2, .int .i64 0, .string s, .slice none 0 0] 192)).alloc (.cells #[.int .i64 1024] 3) := ⟨_, rfl⟩
 have b1 : Below w.heap.size w w1 := by rw [hw1]; exact ((Below.refl _ w).alloc (Nat.le_refl _) _).alloc (by simp) _
 have n1 : w1.heap[w.heap.size + 1]? = some (.cells #[.int .i64 1024] 3 (0, 0)) := by
  rw [hw1]
  have := heap_alloc_new (w.alloc (.cells #[.int .i64 2, .int .i64 0, .string s, .slice none 0 0] 192)) (.cells #[.int .i64 1024] 3)
  simpa using this
 have hf := Qki s hs w1 _ n1
 have HW := hide hw1
 have HB := hide b1
 clear hw1 b1 n1
 go_enter Tryz.func147, Tryz.ntmps147
 go_wp2_with fail
 rw [← Qa HW]
 refine hf.mono ?_
 clear hf
 rintro en w2 ⟨rfl, b2⟩
 have HB2 := hide ((Qa HB).trans (b2.mono (by omega)))
 clear b2
 go_wp2_with fail
 go_ret
 exact ⟨rfl, Qa HB2⟩
theorem Qjl (B b : Nat) (s : ByteArray) (hs : s.size ≤ 65536) (w : World) (h : Trm.Bld B b [] w) (hB : B ≤ w.heap.size) :
  Calls Tryz.prog 148 #[.pointer (some ⟨b, 0, none⟩), .agg #[.int .i64 2, .int .i64 0, .string s, .slice none 0 0]] w fun e w' => e = .returned (.tuple #[]) ∧ Trm.Bld B b (Trm.quoted s) w' ∧ Below B w w' := by
 obtain ⟨w1, hw1⟩ : ∃ w1, w1 = w.alloc (.cells #[.int .i64 2, .int .i64 0, .string s, .slice none 0 0] 192) := ⟨_, rfl⟩
 have b1 : Below w.heap.size w w1 := by rw [hw1]; exact (Below.refl _ w).alloc (Nat.le_refl _) _
 have hw := Trm.wsym_any B b [] s w1 (h.later b1) (by simp) hs (Nat.le_trans hB b1.size)
 have HW := hide hw1
 have HB := hide (b1.mono hB)
 clear hw1 b1 h
 go_enter Tryz.func148, Tryz.ntmps148
 go_wp2_with fail
 rw [← Qa HW]
 refine hw.mono ?_
 clear hw
 rintro en w2 ⟨rfl, h2, k2⟩
 have H2 := hide (Ya h2 ((Qa HB).trans k2.below))
 clear h2 k2
 go_wp2_with fail
 go_end0
 exact ⟨rfl, by simpa using (Qa H2).1, (Qa H2).2⟩
theorem Qph (w : World) : Trm.Bld w.heap.size w.heap.size [] (w.alloc (.cells #[.pointer none, .slice none 0 0] 53)) := by
 refine .inl ⟨Nat.le_refl _, .slice none 0 0, heap_alloc_new w _, ?_, by simp [Value.ownBlock]⟩
 exact World.ownsRowF_of (World.ownsRow_nil _ _ _ _)
theorem Qkj (s : Txt) (hs : s.length ≤ 65536) (w : World) :
  Calls Tryz.prog 129 #[.agg #[.int .i64 2, .int .i64 0, str s, .slice none 0 0]] w fun e w' => e = .returned (str (qtT s)) ∧ Below w.heap.size w w' := by
 have hq : Trm.quoted ⟨s.toArray⟩ = qtT s := by simp [Trm.quoted, qtT]
 have hqn : Trm.quoted ⟨s.toArray⟩ ≠ [] := by simp [Trm.quoted]
 rw [show str s = Value.string ⟨s.toArray⟩ from rfl, ← hq]
 have hs2 : (⟨s.toArray⟩ : ByteArray).size ≤ 65536 := by simpa [ByteArray.size] using hs
 obtain ⟨sb, hsb⟩ : ∃ sb, sb = (⟨s.toArray⟩ : ByteArray) := ⟨_, rfl⟩
 rw [← hsb] at hs2 hqn ⊢
 clear hsb hq
 obtain ⟨w1, hw1⟩ : ∃ w1, w1 = w.alloc (.cells #[.int .i64 2, .int .i64 0, .string sb, .slice none 0 0] 192) := ⟨_, rfl⟩
 have b1 : Below w.heap.size w w1 := by rw [hw1]; exact (Below.refl _ w).alloc (Nat.le_refl _) _
 have n1 : w1.heap[w.heap.size]? = some (.cells #[.int .i64 2, .int .i64 0, .string sb, .slice none 0 0] 192 (0, 0)) := by rw [hw1]; exact heap_alloc_new w _
 have hl1 := Qaf n1
 have hr := Qjk sb hs2 w1
 obtain ⟨x0, x1, x2, x3⟩ := cl4v n1
 have HW := hide hw1
 have HB := hide (Ya b1 (Ya n1 hl1))
 have HS := hide (Ya hs2 hqn)
 clear hw1 b1 n1 hl1 hs2 hqn hs
 go_enter Tryz.func129, Tryz.ntmps129
 go_wp2_with fail
 rw [← Qa HW]
 refine hr.mono ?_
 clear hr x0 x1 x2 x3
 rintro en w2 ⟨rfl, b2⟩
 obtain ⟨b1, n1, hl1⟩ := Qa HB
 have n2 := (b2.block _ hl1).trans n1
 have hl2 := Qaf n2
 have bw2 : Below w.heap.size w w2 := b1.trans (b2.mono b1.size)
 obtain ⟨w3, hw3⟩ : ∃ w3, w3 = w2.alloc (.cells #[.pointer none, .slice none 0 0] 53) := ⟨_, rfl⟩
 have b3 : Below w2.heap.size w2 w3 := by rw [hw3]; exact (Below.refl _ w2).alloc (Nat.le_refl _) _
 have f3 := Qph w2
 rw [← hw3] at f3
 have n3 := (b3.block _ hl2).trans n2
 rw [hw3] at n3
 obtain ⟨x0, x1, x2, x3⟩ := cl4v n3
 have hwr := Qjl _ _ sb (Qa HS).1 w3 f3 b3.size
 have HW3 := hide hw3
 have HB3 := hide (Ya bw2 (b3.mono bw2.size))
 have HZ := hide bw2.size
 clear b1 n1 hl1 n2 hl2 bw2 b2 hw3 b3 f3 n3
 rw [Qa HW3] at hwr
 go_wp2_with fail
 refine hwr.mono ?_
 clear hwr x0 x1 x2 x3
 rintro en w4 ⟨rfl, h4, b4⟩
 have hst := Tryz.Builder_String_k w2.heap.size w2.heap.size _ w4 h4 (Qa HS).2
 have HB4 := hide b4
 clear h4 b4
 go_wp2_with fail
 refine hst.mono ?_
 clear hst
 rintro en w5 ⟨rfl, _, b5, _⟩
 have HB5 := hide b5
 clear b5
 go_wp2_with fail
 go_ret
 refine ⟨rfl, ?_⟩
 obtain ⟨bw2, b3⟩ := Qa HB3
 exact (bw2.trans b3).trans ((((Qa HW3) ▸ (Qa HB4)).trans (Qa HB5)).mono (Qa HZ))
end
section
open Go.RowKit Go.Maps
def opdT (k : Int) (t : Txt) : Txt := if k = 5 then [40] ++ t ++ [41] else t
def opT (s : Txt) : List Int → List Txt → Txt
 | [a, b], [t, u] => opdT a t ++ ([32] ++ s ++ [32]) ++ opdT b u
 | _, _ => []
mutual
def exT : Ex → Txt
 | .mk k n s ks _ => if k = 1 then s else if k = 2 then Lib.itoa n else if k = 3 then qtT s else if k = 4 then [95] else if k = 5 then opT s (ks.map Ex.kind) (exTs ks) else if k = 6 then ([36] ++ s ++ [40]) ++ joinT [44, 32] (exTs ks) ++ [41] else []
def exTs : List Ex → List Txt
 | [] => []
 | x :: xs => exT x :: exTs xs
end
theorem Qow : ∀ xs : List Ex, exTs xs = xs.map exT
 | [] => by simp [exTs]
 | x :: xs => by rw [exTs, Qow xs]; rfl
inductive ShE : Ex → Prop
 | mk (k n : Int) (s : Txt) (ks : List Ex) (a : Int) (hs : s.length ≤ 65536) (h0 : -9223372036854775807 ≤ n) (h1 : n ≤ 9223372036854775807) (hk : ∀ x ∈ ks, ShE x) : ShE (.mk k n s ks a)
theorem Qdr {t : Txt} (h : t.length ≤ 65536) : Sh t := Nat.le_trans h (by decide)
theorem Qeu {B b : Nat} (x : Ex) (hx : PtM 101 B b PE x (exT x)) : PtM 149 B b PE x (opdT x.kind (exT x)) := by
 intro w c lg cs hcs h
 have HC := hide hcs
 obtain ⟨_, rfl, ⟨ka, kc, rfl⟩, hkl⟩ := ExS.cells hcs
 clear hcs
 have HX := hide hx
 clear hx hkl
 obtain ⟨k, hk⟩ : ∃ k, x.kind = k := ⟨_, rfl⟩
 by_cases h5 : k = 5
 ·
  subst h5
  rw [hk] at HC ⊢
  clear hk
  have s1 := St.start (T := 67) h #[.int .i64 5, .int .i64 x.num, str x.txt, .slice ka x.kids.length kc, .int .i64 x.at_] (by decide)
  obtain ⟨w1, hw1⟩ : ∃ w1, w1 = w.alloc (.cells #[.int .i64 5, .int .i64 x.num, str x.txt, .slice ka x.kids.length kc, .int .i64 x.at_] 67) := ⟨_, rfl⟩
  rw [← hw1] at s1
  have xf : ∀ o, w1.frozen? ⟨w.heap.size, o, none⟩ = false := fun o => by simp [World.frozen?, s1.box]
  obtain ⟨x0, x1, x2, x3, x4⟩ : w1.cell? ⟨w.heap.size, 0, none⟩ = some (.int .i64 5) ∧ w1.cell? ⟨w.heap.size, 1, none⟩ = some (.int .i64 x.num) ∧ w1.cell? ⟨w.heap.size, 2, none⟩ = some (str x.txt) ∧ w1.cell? ⟨w.heap.size, 3, none⟩ = some (.slice ka x.kids.length kc) ∧ w1.cell? ⟨w.heap.size, 4, none⟩ = some (.int .i64 x.at_) := ⟨(Qaa (s1).box 0).trans rfl, (Qaa (s1).box 1).trans rfl, (Qaa (s1).box 2).trans rfl, (Qaa (s1).box 3).trans rfl, (Qaa (s1).box 4).trans rfl⟩
  have HW1 := hide hw1
  have S1 := hide s1
  clear h hw1 s1
  go_enter Tryz.func149, Tryz.ntmps149
  go_upto_region 1 with fail
  rw [← Qa HW1]
  have hp := (Qa S1).add ⟨#[40]⟩ (by decide)
  go_wp2_with fail
  refine hp.mono ?_
  clear hp x0 x1 x2 x3 x4 xf
  rintro en w2 ⟨rfl, c2, l2, s2⟩
  obtain ⟨x0, x1, x2, x3, x4⟩ : w2.cell? ⟨w.heap.size, 0, none⟩ = some (.int .i64 5) ∧ w2.cell? ⟨w.heap.size, 1, none⟩ = some (.int .i64 x.num) ∧ w2.cell? ⟨w.heap.size, 2, none⟩ = some (str x.txt) ∧ w2.cell? ⟨w.heap.size, 3, none⟩ = some (.slice ka x.kids.length kc) ∧ w2.cell? ⟨w.heap.size, 4, none⟩ = some (.int .i64 x.at_) := ⟨(Qaa (s2).box 0).trans rfl, (Qaa (s2).box 1).trans rfl, (Qaa (s2).box 2).trans rfl, (Qaa (s2).box 3).trans rfl, (Qaa (s2).box 4).trans rfl⟩
  have S2 := hide s2
  clear s2
  have hp := Qa HX _ _ _ [.int .i64 5, .int .i64 x.num, str x.txt, .slice ka x.kids.length kc, .int .i64 x.at_] (Qae.same _ _ _ _ _ (Qa HC) (Qa S2).kept.below.size (fun q hq _ => (Qa S2).kept.below.block q hq)) (Qa S2).wr
  go_wp2_with fail
  refine hp.mono ?_
  clear hp x0 x1 x2 x3 x4
  intro en w3 ha
  obtain ⟨rfl, c3, l3, s3⟩ := (Qa S2).step ha
  obtain ⟨x0, x1, x2, x3, x4⟩ : w3.cell? ⟨w.heap.size, 0, none⟩ = some (.int .i64 5) ∧ w3.cell? ⟨w.heap.size, 1, none⟩ = some (.int .i64 x.num) ∧ w3.cell? ⟨w.heap.size, 2, none⟩ = some (str x.txt) ∧ w3.cell? ⟨w.heap.size, 3, none⟩ = some (.slice ka x.kids.length kc) ∧ w3.cell? ⟨w.heap.size, 4, none⟩ = some (.int .i64 x.at_) := ⟨(Qaa (s3).box 0).trans rfl, (Qaa (s3).box 1).trans rfl, (Qaa (s3).box 2).trans rfl, (Qaa (s3).box 3).trans rfl, (Qaa (s3).box 4).trans rfl⟩
  have S3 := hide s3
  clear s3 ha
  have hp := (Qa S3).add ⟨#[41]⟩ (by decide)
  go_wp2_with fail
  refine hp.mono ?_
  clear hp x0 x1 x2 x3 x4
  rintro en w4 ⟨rfl, c4, l4, s4⟩
  obtain ⟨x0, x1, x2, x3, x4⟩ : w4.cell? ⟨w.heap.size, 0, none⟩ = some (.int .i64 5) ∧ w4.cell? ⟨w.heap.size, 1, none⟩ = some (.int .i64 x.num) ∧ w4.cell? ⟨w.heap.size, 2, none⟩ = some (str x.txt) ∧ w4.cell? ⟨w.heap.size, 3, none⟩ = some (.slice ka x.kids.length kc) ∧ w4.cell? ⟨w.heap.size, 4, none⟩ = some (.int .i64 x.at_) := ⟨(Qaa (s4).box 0).trans rfl, (Qaa (s4).box 1).trans rfl, (Qaa (s4).box 2).trans rfl, (Qaa (s4).box 3).trans rfl, (Qaa (s4).box 4).trans rfl⟩
  have S4 := hide s4
  clear s4
  go_wp2_with fail
  go_end0
  exact (Qa S4).fin (by simp [opdT])
 have g5 : (k == 5) = false := by simpa using h5
 rw [hk] at HC ⊢
 have H5 := hide h5
 clear hk h5
 have s1 := St.start (T := 67) h #[.int .i64 k, .int .i64 x.num, str x.txt, .slice ka x.kids.length kc, .int .i64 x.at_] (by decide)
 obtain ⟨w1, hw1⟩ : ∃ w1, w1 = w.alloc (.cells #[.int .i64 k, .int .i64 x.num, str x.txt, .slice ka x.kids.length kc, .int .i64 x.at_] 67) := ⟨_, rfl⟩
 rw [← hw1] at s1
 have xf : ∀ o, w1.frozen? ⟨w.heap.size, o, none⟩ = false := fun o => by simp [World.frozen?, s1.box]
 obtain ⟨x0, x1, x2, x3, x4⟩ : w1.cell? ⟨w.heap.size, 0, none⟩ = some (.int .i64 k) ∧ w1.cell? ⟨w.heap.size, 1, none⟩ = some (.int .i64 x.num) ∧ w1.cell? ⟨w.heap.size, 2, none⟩ = some (str x.txt) ∧ w1.cell? ⟨w.heap.size, 3, none⟩ = some (.slice ka x.kids.length kc) ∧ w1.cell? ⟨w.heap.size, 4, none⟩ = some (.int .i64 x.at_) := ⟨(Qaa (s1).box 0).trans rfl, (Qaa (s1).box 1).trans rfl, (Qaa (s1).box 2).trans rfl, (Qaa (s1).box 3).trans rfl, (Qaa (s1).box 4).trans rfl⟩
 have HW1 := hide hw1
 have S1 := hide s1
 clear h hw1 s1
 go_enter Tryz.func149, Tryz.ntmps149
 go_upto_region 1 with fail
 rw [← Qa HW1]
 have hp := Qa HX _ _ _ [.int .i64 k, .int .i64 x.num, str x.txt, .slice ka x.kids.length kc, .int .i64 x.at_] (Qae.same _ _ _ _ _ (Qa HC) (Qa S1).kept.below.size (fun q hq _ => (Qa S1).kept.below.block q hq)) (Qa S1).wr
 go_wp2_with fail
 refine hp.mono ?_
 clear hp x0 x1 x2 x3 x4 xf
 intro en w2 ha
 obtain ⟨rfl, c2, l2, s2⟩ := (Qa S1).step ha
 obtain ⟨x0, x1, x2, x3, x4⟩ : w2.cell? ⟨w.heap.size, 0, none⟩ = some (.int .i64 k) ∧ w2.cell? ⟨w.heap.size, 1, none⟩ = some (.int .i64 x.num) ∧ w2.cell? ⟨w.heap.size, 2, none⟩ = some (str x.txt) ∧ w2.cell? ⟨w.heap.size, 3, none⟩ = some (.slice ka x.kids.length kc) ∧ w2.cell? ⟨w.heap.size, 4, none⟩ = some (.int .i64 x.at_) := ⟨(Qaa (s2).box 0).trans rfl, (Qaa (s2).box 1).trans rfl, (Qaa (s2).box 2).trans rfl, (Qaa (s2).box 3).trans rfl, (Qaa (s2).box 4).trans rfl⟩
 have S2 := hide s2
 clear s2 ha
 go_wp2_with fail
 go_end0
 exact (Qa S2).fin (by simp [opdT, Qa H5])
theorem Qib {B b : Nat} (x : Ex) (hs : Sh x.txt) (hx : ∀ y ∈ x.kids, PtM 101 B b PE y (exT y)) : PtM 130 B b PE x (opT x.txt (x.kids.map Ex.kind) (exTs x.kids)) := by
 intro w c lg cs hcs h
 have HC := hide hcs
 obtain ⟨_, rfl, ⟨ka, kc, rfl⟩, hkl⟩ := ExS.cells hcs
 clear hcs
 have HX := hide hx
 have HS := hide hs
 have HKL := hide hkl
 clear hx hkl hs
 obtain ⟨kn, hkn⟩ : ∃ kn, x.kids.length = kn := ⟨_, rfl⟩
 rw [hkn] at HC HKL ⊢
 have HN := hide hkn
 clear hkn
 have s1 := St.start (T := 67) h #[.int .i64 x.kind, .int .i64 x.num, str x.txt, .slice ka kn kc, .int .i64 x.at_] (by decide)
 obtain ⟨w1, hw1⟩ : ∃ w1, w1 = w.alloc (.cells #[.int .i64 x.kind, .int .i64 x.num, str x.txt, .slice ka kn kc, .int .i64 x.at_] 67) := ⟨_, rfl⟩
 rw [← hw1] at s1
 have xf : ∀ o, w1.frozen? ⟨w.heap.size, o, none⟩ = false := fun o => by simp [World.frozen?, s1.box]
 obtain ⟨x0, x1, x2, x3, x4⟩ : w1.cell? ⟨w.heap.size, 0, none⟩ = some (.int .i64 x.kind) ∧ w1.cell? ⟨w.heap.size, 1, none⟩ = some (.int .i64 x.num) ∧ w1.cell? ⟨w.heap.size, 2, none⟩ = some (str x.txt) ∧ w1.cell? ⟨w.heap.size, 3, none⟩ = some (.slice ka kn kc) ∧ w1.cell? ⟨w.heap.size, 4, none⟩ = some (.int .i64 x.at_) := ⟨(Qaa (s1).box 0).trans rfl, (Qaa (s1).box 1).trans rfl, (Qaa (s1).box 2).trans rfl, (Qaa (s1).box 3).trans rfl, (Qaa (s1).box 4).trans rfl⟩
 have HW1 := hide hw1
 have S1 := hide s1
 clear h hw1 s1
 obtain ⟨_, _, hbx, _⟩ := (Qa S1).wr.box
 obtain ⟨_, _, u2, _, uf⟩ := cl3w hbx
 clear hbx
 cases lg
 ·
  by_cases h2 : kn = 2
  ·
   subst h2
   obtain ⟨y, z, hyz⟩ : ∃ y z, x.kids = [y, z] := by
    have := Qa HN
    match hm : x.kids, this with
    | [y, z], _ => exact ⟨y, z, rfl⟩
   have hL := Qa HKL
   obtain ⟨gb, cap, cy, e1, hgb, hS, _, hcy, hy⟩ := hL.elem (j := 0) (x := y) (by rw [hyz]; rfl)
   obtain ⟨gb2, cap2, cz, e2, _, _, _, hcz, hz⟩ := hL.elem (j := 1) (x := z) (by rw [hyz]; rfl)
   simp only [Value.slice.injEq] at e1 e2
   obtain ⟨rfl, -, -⟩ := e1
   obtain ⟨e2, -, -⟩ := e2
   cases e2
   have HCy := hide hcy
   obtain ⟨_, rfl, ⟨ya, yc, rfl⟩, _⟩ := ExS.cells hcy
   have HCz := hide hcz
   obtain ⟨_, rfl, ⟨za, zc, rfl⟩, _⟩ := ExS.cells hcz
   have HY := hide (Ya hy (Ya hz hS))
   have HYZ := hide hyz
   clear hcy hcz hy hz hgb hyz hL hS
   go_enter Tryz.func130, Tryz.ntmps130
   go_upto_region 1 with fail
   rw [← Qa HW1]
   obtain ⟨v0, v1, v2, v3, v4⟩ : w1.cell? ⟨gb, 0, none⟩ = some (.int .i64 y.kind) ∧ w1.cell? ⟨gb, 1, none⟩ = some (.int .i64 y.num) ∧ w1.cell? ⟨gb, 2, none⟩ = some (str y.txt) ∧ w1.cell? ⟨gb, 3, none⟩ = some (.slice ya y.kids.length yc) ∧ w1.cell? ⟨gb, 4, none⟩ = some (.int .i64 y.at_) := by
    have hc := fun q c hq => ((Qa S1).kept.below.cell (p := ⟨gb, _, none⟩) (Qa HY).2.2).trans ((Qa HY).1 q c hq)
    exact ⟨hc 0 _ rfl, hc 1 _ rfl, hc 2 _ rfl, hc 3 _ rfl, hc 4 _ rfl⟩
   have hp := Qeu y (Qa HX y (by rw [Qa HYZ]; simp)) _ _ _ [.int .i64 y.kind, .int .i64 y.num, str y.txt, .slice ya y.kids.length yc, .int .i64 y.at_] (Qae.same _ _ _ _ _ (Qa HCy) (Qa S1).kept.below.size (fun q hq _ => (Qa S1).kept.below.block q hq)) (Qa S1).wr
   go_wp2_with fail
   refine hp.mono ?_
   clear hp x0 x1 x2 x3 x4 xf
   intro en w2 ha
   obtain ⟨rfl, c2, l2, s2⟩ := (Qa S1).step ha
   obtain ⟨x0, x1, x2, x3, x4⟩ : w2.cell? ⟨w.heap.size, 0, none⟩ = some (.int .i64 x.kind) ∧ w2.cell? ⟨w.heap.size, 1, none⟩ = some (.int .i64 x.num) ∧ w2.cell? ⟨w.heap.size, 2, none⟩ = some (str x.txt) ∧ w2.cell? ⟨w.heap.size, 3, none⟩ = some (.slice (some ⟨gb, 0, none⟩) 2 kc) ∧ w2.cell? ⟨w.heap.size, 4, none⟩ = some (.int .i64 x.at_) := ⟨(Qaa (s2).box 0).trans rfl, (Qaa (s2).box 1).trans rfl, (Qaa (s2).box 2).trans rfl, (Qaa (s2).box 3).trans rfl, (Qaa (s2).box 4).trans rfl⟩
   have S2 := hide s2
   clear s2 ha
   clear v0 v1 v2 v3 v4 u2 uf
   have hp := (Qa S2).put [[32], x.txt, [32]] #[.string ⟨#[32]⟩, str x.txt, .string ⟨#[32]⟩] (n := 3) rfl rfl (by
    intro u hu
    simp only [List.mem_cons, List.not_mem_nil, or_false] at hu
    rcases hu with rfl | rfl | rfl
    · show ([32] : Txt).length ≤ 140737488355328; decide
    · exact Qa HS
    · show ([32] : Txt).length ≤ 140737488355328; decide) (by decide)
   go_wp2_with fail
   refine hp.mono ?_
   clear hp x0 x1 x2 x3 x4
   rintro en w3 ⟨rfl, c3, l3, s3⟩
   obtain ⟨x0, x1, x2, x3, x4⟩ : w3.cell? ⟨w.heap.size, 0, none⟩ = some (.int .i64 x.kind) ∧ w3.cell? ⟨w.heap.size, 1, none⟩ = some (.int .i64 x.num) ∧ w3.cell? ⟨w.heap.size, 2, none⟩ = some (str x.txt) ∧ w3.cell? ⟨w.heap.size, 3, none⟩ = some (.slice (some ⟨gb, 0, none⟩) 2 kc) ∧ w3.cell? ⟨w.heap.size, 4, none⟩ = some (.int .i64 x.at_) := ⟨(Qaa (s3).box 0).trans rfl, (Qaa (s3).box 1).trans rfl, (Qaa (s3).box 2).trans rfl, (Qaa (s3).box 3).trans rfl, (Qaa (s3).box 4).trans rfl⟩
   have S3 := hide s3
   clear s3
   obtain ⟨v0, v1, v2, v3, v4⟩ : w3.cell? ⟨gb, 5, none⟩ = some (.int .i64 z.kind) ∧ w3.cell? ⟨gb, 6, none⟩ = some (.int .i64 z.num) ∧ w3.cell? ⟨gb, 7, none⟩ = some (str z.txt) ∧ w3.cell? ⟨gb, 8, none⟩ = some (.slice za z.kids.length zc) ∧ w3.cell? ⟨gb, 9, none⟩ = some (.int .i64 z.at_) := by
    have hc := fun q c hq => ((Qa S3).kept.below.cell (p := ⟨gb, _, none⟩) (Qa HY).2.2).trans ((Qa HY).2.1 q c hq)
    exact ⟨hc 0 _ rfl, hc 1 _ rfl, hc 2 _ rfl, hc 3 _ rfl, hc 4 _ rfl⟩
   have hp := Qeu z (Qa HX z (by rw [Qa HYZ]; simp)) _ _ _ [.int .i64 z.kind, .int .i64 z.num, str z.txt, .slice za z.kids.length zc, .int .i64 z.at_] (Qae.same _ _ _ _ _ (Qa HCz) (Qa S3).kept.below.size (fun q hq _ => (Qa S3).kept.below.block q hq)) (Qa S3).wr
   go_wp2_with fail
   refine hp.mono ?_
   clear hp x0 x1 x2 x3 x4
   intro en w4 ha
   obtain ⟨rfl, c4, l4, s4⟩ := (Qa S3).step ha
   obtain ⟨x0, x1, x2, x3, x4⟩ : w4.cell? ⟨w.heap.size, 0, none⟩ = some (.int .i64 x.kind) ∧ w4.cell? ⟨w.heap.size, 1, none⟩ = some (.int .i64 x.num) ∧ w4.cell? ⟨w.heap.size, 2, none⟩ = some (str x.txt) ∧ w4.cell? ⟨w.heap.size, 3, none⟩ = some (.slice (some ⟨gb, 0, none⟩) 2 kc) ∧ w4.cell? ⟨w.heap.size, 4, none⟩ = some (.int .i64 x.at_) := ⟨(Qaa (s4).box 0).trans rfl, (Qaa (s4).box 1).trans rfl, (Qaa (s4).box 2).trans rfl, (Qaa (s4).box 3).trans rfl, (Qaa (s4).box 4).trans rfl⟩
   have S4 := hide s4
   clear s4 ha
   go_wp2_with fail
   go_end0
   exact (Qa S4).fin (by rw [Qa HYZ]; simp [opT, exTs])
  have g2 : ((kn : Int) == 2) = false := by simp; omega
  have H2 := hide h2
  clear h2
  go_enter Tryz.func130, Tryz.ntmps130
  go_upto_region 1 with fail
  rw [← Qa HW1]
  go_wp2_with fail
  go_end0
  refine (Qa S1).fin ?_
  have := Qa HN
  have h2 := Qa H2
  match hm : x.kids, this with
  | [], _ => rfl
  | [_], _ => rfl
  | [_, _], e => exact absurd e.symm h2
  | _ :: _ :: _ :: _, _ => rfl
 go_enter Tryz.func130, Tryz.ntmps130
 go_upto_region 1 with fail
 rw [← Qa HW1]
 go_wp2_with fail
 go_end0
 exact ⟨rfl, (Qa S1).kept, _, _, (Qa S1).wr, (Qa S1).wt.long _⟩
theorem Qgd {B b : Nat} (x : Ex) (hx : ShE x) : PtM 101 B b PE x (exT x) := by
 induction hx with
 | mk k n s ks a hs h0 h1 hk ih =>
  intro w c lg cs hcs h
  have HC := hide hcs
  obtain ⟨_, rfl, ⟨ka, kc, rfl⟩, hkl⟩ := ExS.cells hcs
  simp only [Ex.kind, Ex.num, Ex.txt, Ex.kids, Ex.at_] at HC hkl ⊢
  have HN := hide (Ya (show -9223372036854775808 ≤ n by omega) h1)
  have HS := hide hs
  have HI := hide ih
  have HL := hide hkl
  clear hcs h0 h1 hs hk ih hkl
  by_cases e1 : k = 1
  ·
   subst e1
   have s1 := St.start (T := 67) h #[.int .i64 1, .int .i64 n, str s, .slice ka ks.length kc, .int .i64 a] (by decide)
   obtain ⟨w1, hw1⟩ : ∃ w1, w1 = w.alloc (.cells #[.int .i64 1, .int .i64 n, str s, .slice ka ks.length kc, .int .i64 a] 67) := ⟨_, rfl⟩
   rw [← hw1] at s1
   have xf : ∀ o, w1.frozen? ⟨w.heap.size, o, none⟩ = false := fun o => by simp [World.frozen?, s1.box]
   obtain ⟨x0, x1, x2, x3, x4⟩ : w1.cell? ⟨w.heap.size, 0, none⟩ = some (.int .i64 1) ∧ w1.cell? ⟨w.heap.size, 1, none⟩ = some (.int .i64 n) ∧ w1.cell? ⟨w.heap.size, 2, none⟩ = some (str s) ∧ w1.cell? ⟨w.heap.size, 3, none⟩ = some (.slice ka ks.length kc) ∧ w1.cell? ⟨w.heap.size, 4, none⟩ = some (.int .i64 a) := ⟨(Qaa (s1).box 0).trans rfl, (Qaa (s1).box 1).trans rfl, (Qaa (s1).box 2).trans rfl, (Qaa (s1).box 3).trans rfl, (Qaa (s1).box 4).trans rfl⟩
   have HW1 := hide hw1
   have S1 := hide s1
   clear h hw1 s1
   go_enter Tryz.func101, Tryz.ntmps101
   go_upto_region 1 with fail
   rw [← Qa HW1]
   have hp := (Qa S1).addT s (Qdr (Qa HS))
   go_wp2_with fail
   refine hp.mono ?_
   clear hp x0 x1 x2 x3 x4 xf
   rintro en w2 ⟨rfl, c2, l2, s2⟩
   obtain ⟨x0, x1, x2, x3, x4⟩ : w2.cell? ⟨w.heap.size, 0, none⟩ = some (.int .i64 1) ∧ w2.cell? ⟨w.heap.size, 1, none⟩ = some (.int .i64 n) ∧ w2.cell? ⟨w.heap.size, 2, none⟩ = some (str s) ∧ w2.cell? ⟨w.heap.size, 3, none⟩ = some (.slice ka ks.length kc) ∧ w2.cell? ⟨w.heap.size, 4, none⟩ = some (.int .i64 a) := ⟨(Qaa (s2).box 0).trans rfl, (Qaa (s2).box 1).trans rfl, (Qaa (s2).box 2).trans rfl, (Qaa (s2).box 3).trans rfl, (Qaa (s2).box 4).trans rfl⟩
   have S2 := hide s2
   clear s2
   go_wp2_with fail
   go_end0
   exact (Qa S2).fin (by simp [exT])
  have g1 : (k == 1) = false := by simpa using e1
  by_cases e2 : k = 2
  ·
   subst e2
   have s1 := St.start (T := 67) h #[.int .i64 2, .int .i64 n, str s, .slice ka ks.length kc, .int .i64 a] (by decide)
   obtain ⟨w1, hw1⟩ : ∃ w1, w1 = w.alloc (.cells #[.int .i64 2, .int .i64 n, str s, .slice ka ks.length kc, .int .i64 a] 67) := ⟨_, rfl⟩
   rw [← hw1] at s1
   have xf : ∀ o, w1.frozen? ⟨w.heap.size, o, none⟩ = false := fun o => by simp [World.frozen?, s1.box]
   obtain ⟨x0, x1, x2, x3, x4⟩ : w1.cell? ⟨w.heap.size, 0, none⟩ = some (.int .i64 2) ∧ w1.cell? ⟨w.heap.size, 1, none⟩ = some (.int .i64 n) ∧ w1.cell? ⟨w.heap.size, 2, none⟩ = some (str s) ∧ w1.cell? ⟨w.heap.size, 3, none⟩ = some (.slice ka ks.length kc) ∧ w1.cell? ⟨w.heap.size, 4, none⟩ = some (.int .i64 a) := ⟨(Qaa (s1).box 0).trans rfl, (Qaa (s1).box 1).trans rfl, (Qaa (s1).box 2).trans rfl, (Qaa (s1).box 3).trans rfl, (Qaa (s1).box 4).trans rfl⟩
   have HW1 := hide hw1
   have S1 := hide s1
   clear h hw1 s1
   go_enter Tryz.func101, Tryz.ntmps101
   go_upto_region 1 with fail
   rw [← Qa HW1]
   have hq := Qka n (Qa HN).1 (Qa HN).2 w1 (Qa S1).wr.tbl.1
   go_wp2_with fail
   refine hq.mono ?_
   clear hq x0 x1 x2 x3 x4 xf
   rintro en w2 ⟨rfl, b2⟩
   have S2 := hide ((Qa S1).later b2)
   clear b2
   have hp := (Qa S2).add ⟨(Lib.itoa n).toArray⟩ (by have := Qsl (Qa HN).1 (Qa HN).2; simp [ByteArray.size]; omega)
   go_wp2_with fail
   refine hp.mono ?_
   clear hp
   rintro en w3 ⟨rfl, c3, l3, s3⟩
   have S3 := hide s3
   clear s3
   go_wp2_with fail
   go_end0
   exact (Qa S3).fin (by simp [exT])
  have g2 : (k == 2) = false := by simpa using e2
  by_cases e3 : k = 3
  ·
   subst e3
   have s1 := St.start (T := 67) h #[.int .i64 3, .int .i64 n, str s, .slice ka ks.length kc, .int .i64 a] (by decide)
   obtain ⟨w1, hw1⟩ : ∃ w1, w1 = w.alloc (.cells #[.int .i64 3, .int .i64 n, str s, .slice ka ks.length kc, .int .i64 a] 67) := ⟨_, rfl⟩
   rw [← hw1] at s1
   have xf : ∀ o, w1.frozen? ⟨w.heap.size, o, none⟩ = false := fun o => by simp [World.frozen?, s1.box]
   obtain ⟨x0, x1, x2, x3, x4⟩ : w1.cell? ⟨w.heap.size, 0, none⟩ = some (.int .i64 3) ∧ w1.cell? ⟨w.heap.size, 1, none⟩ = some (.int .i64 n) ∧ w1.cell? ⟨w.heap.size, 2, none⟩ = some (str s) ∧ w1.cell? ⟨w.heap.size, 3, none⟩ = some (.slice ka ks.length kc) ∧ w1.cell? ⟨w.heap.size, 4, none⟩ = some (.int .i64 a) := ⟨(Qaa (s1).box 0).trans rfl, (Qaa (s1).box 1).trans rfl, (Qaa (s1).box 2).trans rfl, (Qaa (s1).box 3).trans rfl, (Qaa (s1).box 4).trans rfl⟩
   have HW1 := hide hw1
   have S1 := hide s1
   clear h hw1 s1
   go_enter Tryz.func101, Tryz.ntmps101
   go_upto_region 1 with fail
   rw [← Qa HW1]
   have hq := Qkj s (Qa HS) w1
   go_wp2_with fail
   refine hq.mono ?_
   clear hq x0 x1 x2 x3 x4 xf
   rintro en w2 ⟨rfl, b2⟩
   have S2 := hide ((Qa S1).later b2)
   clear b2
   have hp := (Qa S2).addT (qtT s) (by have := qtT_len s; have := Qa HS; show (qtT s).length ≤ _; omega)
   go_wp2_with fail
   refine hp.mono ?_
   clear hp
   rintro en w3 ⟨rfl, c3, l3, s3⟩
   have S3 := hide s3
   clear s3
   go_wp2_with fail
   go_end0
   exact (Qa S3).fin (by simp [exT])
  have g3 : (k == 3) = false := by simpa using e3
  by_cases e4 : k = 4
  ·
   subst e4
   have s1 := St.start (T := 67) h #[.int .i64 4, .int .i64 n, str s, .slice ka ks.length kc, .int .i64 a] (by decide)
   obtain ⟨w1, hw1⟩ : ∃ w1, w1 = w.alloc (.cells #[.int .i64 4, .int .i64 n, str s, .slice ka ks.length kc, .int .i64 a] 67) := ⟨_, rfl⟩
   rw [← hw1] at s1
   have xf : ∀ o, w1.frozen? ⟨w.heap.size, o, none⟩ = false := fun o => by simp [World.frozen?, s1.box]
   obtain ⟨x0, x1, x2, x3, x4⟩ : w1.cell? ⟨w.heap.size, 0, none⟩ = some (.int .i64 4) ∧ w1.cell? ⟨w.heap.size, 1, none⟩ = some (.int .i64 n) ∧ w1.cell? ⟨w.heap.size, 2, none⟩ = some (str s) ∧ w1.cell? ⟨w.heap.size, 3, none⟩ = some (.slice ka ks.length kc) ∧ w1.cell? ⟨w.heap.size, 4, none⟩ = some (.int .i64 a) := ⟨(Qaa (s1).box 0).trans rfl, (Qaa (s1).box 1).trans rfl, (Qaa (s1).box 2).trans rfl, (Qaa (s1).box 3).trans rfl, (Qaa (s1).box 4).trans rfl⟩
   have HW1 := hide hw1
   have S1 := hide s1
   clear h hw1 s1
   go_enter Tryz.func101, Tryz.ntmps101
   go_upto_region 1 with fail
   rw [← Qa HW1]
   have hp := (Qa S1).add ⟨#[95]⟩ (by decide)
   go_wp2_with fail
   refine hp.mono ?_
   clear hp x0 x1 x2 x3 x4 xf
   rintro en w2 ⟨rfl, c2, l2, s2⟩
   obtain ⟨x0, x1, x2, x3, x4⟩ : w2.cell? ⟨w.heap.size, 0, none⟩ = some (.int .i64 4) ∧ w2.cell? ⟨w.heap.size, 1, none⟩ = some (.int .i64 n) ∧ w2.cell? ⟨w.heap.size, 2, none⟩ = some (str s) ∧ w2.cell? ⟨w.heap.size, 3, none⟩ = some (.slice ka ks.length kc) ∧ w2.cell? ⟨w.heap.size, 4, none⟩ = some (.int .i64 a) := ⟨(Qaa (s2).box 0).trans rfl, (Qaa (s2).box 1).trans rfl, (Qaa (s2).box 2).trans rfl, (Qaa (s2).box 3).trans rfl, (Qaa (s2).box 4).trans rfl⟩
   have S2 := hide s2
   clear s2
   go_wp2_with fail
   go_end0
   exact (Qa S2).fin (by simp [exT])
  have g4 : (k == 4) = false := by simpa using e4
  by_cases e5 : k = 5
  ·
   subst e5
   have s1 := St.start (T := 67) h #[.int .i64 5, .int .i64 n, str s, .slice ka ks.length kc, .int .i64 a] (by decide)
   obtain ⟨w1, hw1⟩ : ∃ w1, w1 = w.alloc (.cells #[.int .i64 5, .int .i64 n, str s, .slice ka ks.length kc, .int .i64 a] 67) := ⟨_, rfl⟩
   rw [← hw1] at s1
   have xf : ∀ o, w1.frozen? ⟨w.heap.size, o, none⟩ = false := fun o => by simp [World.frozen?, s1.box]
   obtain ⟨x0, x1, x2, x3, x4⟩ : w1.cell? ⟨w.heap.size, 0, none⟩ = some (.int .i64 5) ∧ w1.cell? ⟨w.heap.size, 1, none⟩ = some (.int .i64 n) ∧ w1.cell? ⟨w.heap.size, 2, none⟩ = some (str s) ∧ w1.cell? ⟨w.heap.size, 3, none⟩ = some (.slice ka ks.length kc) ∧ w1.cell? ⟨w.heap.size, 4, none⟩ = some (.int .i64 a) := ⟨(Qaa (s1).box 0).trans rfl, (Qaa (s1).box 1).trans rfl, (Qaa (s1).box 2).trans rfl, (Qaa (s1).box 3).trans rfl, (Qaa (s1).box 4).trans rfl⟩
   have HW1 := hide hw1
   have S1 := hide s1
   clear h hw1 s1
   go_enter Tryz.func101, Tryz.ntmps101
   go_upto_region 1 with fail
   rw [← Qa HW1]
   have hp := Qib (.mk 5 n s ks a) (Qdr (Qa HS)) (Qa HI) _ _ _ [.int .i64 5, .int .i64 n, str s, .slice ka ks.length kc, .int .i64 a] (Qae.same _ _ _ _ _ (Qa HC) (Qa S1).kept.below.size (fun q hq _ => (Qa S1).kept.below.block q hq)) (Qa S1).wr
   go_wp2_with fail
   refine hp.mono ?_
   clear hp x0 x1 x2 x3 x4 xf
   intro en w2 ha
   obtain ⟨rfl, c2, l2, s2⟩ := (Qa S1).step ha
   obtain ⟨x0, x1, x2, x3, x4⟩ : w2.cell? ⟨w.heap.size, 0, none⟩ = some (.int .i64 5) ∧ w2.cell? ⟨w.heap.size, 1, none⟩ = some (.int .i64 n) ∧ w2.cell? ⟨w.heap.size, 2, none⟩ = some (str s) ∧ w2.cell? ⟨w.heap.size, 3, none⟩ = some (.slice ka ks.length kc) ∧ w2.cell? ⟨w.heap.size, 4, none⟩ = some (.int .i64 a) := ⟨(Qaa (s2).box 0).trans rfl, (Qaa (s2).box 1).trans rfl, (Qaa (s2).box 2).trans rfl, (Qaa (s2).box 3).trans rfl, (Qaa (s2).box 4).trans rfl⟩
   have S2 := hide s2
   clear s2 ha
   go_wp2_with fail
   go_end0
   exact (Qa S2).fin (by simp [exT, Ex.txt, Ex.kids])
  have g5 : (k == 5) = false := by simpa using e5
  by_cases e6 : k = 6
  ·
   subst e6
   have s1 := St.start (T := 67) h #[.int .i64 6, .int .i64 n, str s, .slice ka ks.length kc, .int .i64 a] (by decide)
   obtain ⟨w1, hw1⟩ : ∃ w1, w1 = w.alloc (.cells #[.int .i64 6, .int .i64 n, str s, .slice ka ks.length kc, .int .i64 a] 67) := ⟨_, rfl⟩
   rw [← hw1] at s1
   have xf : ∀ o, w1.frozen? ⟨w.heap.size, o, none⟩ = false := fun o => by simp [World.frozen?, s1.box]
   obtain ⟨x0, x1, x2, x3, x4⟩ : w1.cell? ⟨w.heap.size, 0, none⟩ = some (.int .i64 6) ∧ w1.cell? ⟨w.heap.size, 1, none⟩ = some (.int .i64 n) ∧ w1.cell? ⟨w.heap.size, 2, none⟩ = some (str s) ∧ w1.cell? ⟨w.heap.size, 3, none⟩ = some (.slice ka ks.length kc) ∧ w1.cell? ⟨w.heap.size, 4, none⟩ = some (.int .i64 a) := ⟨(Qaa (s1).box 0).trans rfl, (Qaa (s1).box 1).trans rfl, (Qaa (s1).box 2).trans rfl, (Qaa (s1).box 3).trans rfl, (Qaa (s1).box 4).trans rfl⟩
   have HW1 := hide hw1
   have S1 := hide s1
   clear h hw1 s1
   go_enter Tryz.func101, Tryz.ntmps101
   go_upto_region 1 with fail
   rw [← Qa HW1]
   have hp := (Qa S1).put [[36], s, [40]] #[.string ⟨#[36]⟩, str s, .string ⟨#[40]⟩] (n := 3) rfl rfl (by
    intro u hu
    simp only [List.mem_cons, List.not_mem_nil, or_false] at hu
    rcases hu with rfl | rfl | rfl
    · show ([36] : Txt).length ≤ 140737488355328; decide
    · exact Qdr (Qa HS)
    · show ([40] : Txt).length ≤ 140737488355328; decide) (by decide)
   go_wp2_with fail
   refine hp.mono ?_
   clear hp x0 x1 x2 x3 x4 xf
   rintro en w2 ⟨rfl, c2, l2, s2⟩
   obtain ⟨x0, x1, x2, x3, x4⟩ : w2.cell? ⟨w.heap.size, 0, none⟩ = some (.int .i64 6) ∧ w2.cell? ⟨w.heap.size, 1, none⟩ = some (.int .i64 n) ∧ w2.cell? ⟨w.heap.size, 2, none⟩ = some (str s) ∧ w2.cell? ⟨w.heap.size, 3, none⟩ = some (.slice ka ks.length kc) ∧ w2.cell? ⟨w.heap.size, 4, none⟩ = some (.int .i64 a) := ⟨(Qaa (s2).box 0).trans rfl, (Qaa (s2).box 1).trans rfl, (Qaa (s2).box 2).trans rfl, (Qaa (s2).box 3).trans rfl, (Qaa (s2).box 4).trans rfl⟩
   have S2 := hide s2
   clear s2
   have hp := Qgv (Qa S2).wr ⟨#[44, 32]⟩ (by decide) ((Qa HL).same Qae (Qa S2).kept.below.size (fun q hq _ => (Qa S2).kept.below.block q hq)) exT (Qa HI) (Qa HL).len
   go_wp2_with fail
   refine hp.mono ?_
   clear hp x0 x1 x2 x3 x4
   intro en w3 ha
   obtain ⟨rfl, c3, l3, s3⟩ := (Qa S2).step ha
   obtain ⟨x0, x1, x2, x3, x4⟩ : w3.cell? ⟨w.heap.size, 0, none⟩ = some (.int .i64 6) ∧ w3.cell? ⟨w.heap.size, 1, none⟩ = some (.int .i64 n) ∧ w3.cell? ⟨w.heap.size, 2, none⟩ = some (str s) ∧ w3.cell? ⟨w.heap.size, 3, none⟩ = some (.slice ka ks.length kc) ∧ w3.cell? ⟨w.heap.size, 4, none⟩ = some (.int .i64 a) := ⟨(Qaa (s3).box 0).trans rfl, (Qaa (s3).box 1).trans rfl, (Qaa (s3).box 2).trans rfl, (Qaa (s3).box 3).trans rfl, (Qaa (s3).box 4).trans rfl⟩
   have S3 := hide s3
   clear s3 ha
   have hp := (Qa S3).add ⟨#[41]⟩ (by decide)
   go_wp2_with fail
   refine hp.mono ?_
   clear hp x0 x1 x2 x3 x4
   rintro en w4 ⟨rfl, c4, l4, s4⟩
   obtain ⟨x0, x1, x2, x3, x4⟩ : w4.cell? ⟨w.heap.size, 0, none⟩ = some (.int .i64 6) ∧ w4.cell? ⟨w.heap.size, 1, none⟩ = some (.int .i64 n) ∧ w4.cell? ⟨w.heap.size, 2, none⟩ = some (str s) ∧ w4.cell? ⟨w.heap.size, 3, none⟩ = some (.slice ka ks.length kc) ∧ w4.cell? ⟨w.heap.size, 4, none⟩ = some (.int .i64 a) := ⟨(Qaa (s4).box 0).trans rfl, (Qaa (s4).box 1).trans rfl, (Qaa (s4).box 2).trans rfl, (Qaa (s4).box 3).trans rfl, (Qaa (s4).box 4).trans rfl⟩
   have S4 := hide s4
   clear s4
   go_wp2_with fail
   go_end0
   exact (Qa S4).fin (by simp [exT, Qow])
  have g6 : (k == 6) = false := by simpa using e6
  have HE := hide (Ya e1 (Ya e2 (Ya e3 (Ya e4 (Ya e5 e6)))))
  clear e1 e2 e3 e4 e5 e6
  have s1 := St.start (T := 67) h #[.int .i64 k, .int .i64 n, str s, .slice ka ks.length kc, .int .i64 a] (by decide)
  obtain ⟨w1, hw1⟩ : ∃ w1, w1 = w.alloc (.cells #[.int .i64 k, .int .i64 n, str s, .slice ka ks.length kc, .int .i64 a] 67) := ⟨_, rfl⟩
  rw [← hw1] at s1
  have xf : ∀ o, w1.frozen? ⟨w.heap.size, o, none⟩ = false := fun o => by simp [World.frozen?, s1.box]
  obtain ⟨x0, x1, x2, x3, x4⟩ : w1.cell? ⟨w.heap.size, 0, none⟩ = some (.int .i64 k) ∧ w1.cell? ⟨w.heap.size, 1, none⟩ = some (.int .i64 n) ∧ w1.cell? ⟨w.heap.size, 2, none⟩ = some (str s) ∧ w1.cell? ⟨w.heap.size, 3, none⟩ = some (.slice ka ks.length kc) ∧ w1.cell? ⟨w.heap.size, 4, none⟩ = some (.int .i64 a) := ⟨(Qaa (s1).box 0).trans rfl, (Qaa (s1).box 1).trans rfl, (Qaa (s1).box 2).trans rfl, (Qaa (s1).box 3).trans rfl, (Qaa (s1).box 4).trans rfl⟩
  have HW1 := hide hw1
  have S1 := hide s1
  clear h hw1 s1
  go_enter Tryz.func101, Tryz.ntmps101
  go_upto_region 1 with fail
  rw [← Qa HW1]
  go_wp2_with fail
  go_end0
  obtain ⟨e1, e2, e3, e4, e5, e6⟩ := Qa HE
  exact (Qa S1).fin (by simp [exT, e1, e2, e3, e4, e5, e6])
end
end Go.Proofs.YtccehgfecaamoaaGreatDoor
