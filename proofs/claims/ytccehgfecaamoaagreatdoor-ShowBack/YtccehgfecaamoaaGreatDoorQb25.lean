/- show's writer: decl. show's writer: typeDecl. show's writer: lines at vestry/api.Comp. show's writer: a list of texts. show's writer: lines at vestry/api.TypeDecl. show's writer: lines at vestry/api.Decl. show's writer: lines at vestry/api.Clause. -/
import Derived.Test.YtccehgfecaamoaaGreatDoorQb22
import Derived.Test.YtccehgfecaamoaaGreatDoorQb15
import Derived.Test.YtccehgfecaamoaaGreatDoorQb14
import Derived.Deep.Cut
set_option maxRecDepth 100000
set_option maxHeartbeats 32000000
namespace Go.Proofs.YtccehgfecaamoaaGreatDoor
section
open Go.RowKit Go.Maps
def dcT (x : Dcl) : Txt := ([46, 100, 101, 99, 108, 32] ++ x.name ++ [40]) ++ joinT [44, 32] (x.cols.map fdT) ++ [41] ++ (if x.input then [32, 105, 110, 112, 117, 116] else []) ++ (if x.output then [32, 111, 117, 116, 112, 117, 116] else [])
theorem Qzm {B b : Nat} (x : Dcl) (h1 : Sh x.name) (h2 : ∀ f ∈ x.cols, Sh f.name ∧ Sh f.type) : PtM 29 B b PDc x (dcT x) := by
 intro w c lg cs hcs h
 obtain ⟨xa, xn, xc, rfl, hfl⟩ := hcs
 obtain ⟨_, _, e⟩ := hfl.sl
 cases e
 have HF := hide hfl
 have H2 := hide (Ya h2 hfl.len)
 have H1 := hide h1
 clear hfl h1 h2
 obtain ⟨xi, hi⟩ : ∃ xi, x.input = xi := ⟨_, rfl⟩
 obtain ⟨xo, ho⟩ : ∃ xo, x.output = xo := ⟨_, rfl⟩
 obtain ⟨xn, hxn⟩ : ∃ xn, x.cols.length = xn := ⟨_, rfl⟩
 have HQ := hide (Ya hi ho)
 rw [hi, ho]
 clear hi ho hxn
 have s1 := St.start (T := 99) h #[str x.name, .slice xa x.cols.length xc, .bool xi, .bool xo, .int .i64 x.at_] (by decide)
 obtain ⟨w1, hw1⟩ : ∃ w1, w1 = w.alloc (.cells #[str x.name, .slice xa x.cols.length xc, .bool xi, .bool xo, .int .i64 x.at_] 99) := ⟨_, rfl⟩
 rw [← hw1] at s1
 have xf : ∀ o, w1.frozen? ⟨w.heap.size, o, none⟩ = false := fun o => by simp [World.frozen?, s1.box]
 obtain ⟨x0, x1, x2, x3, x4⟩ := cx5 (s1).box
 have HW1 := hide hw1
 have S1 := hide s1
 clear h hw1 s1
 go_enter Tryz.func29, Tryz.ntmps29
 go_upto_region 1 with fail
 rw [← Qa HW1]
 have hp := (Qa S1).put [[46, 100, 101, 99, 108, 32], x.name, [40]] #[.string ⟨#[46, 100, 101, 99, 108, 32]⟩, str x.name, .string ⟨#[40]⟩] (n := 3) rfl rfl (by
  intro u hu
  simp only [List.mem_cons, List.not_mem_nil, or_false] at hu
  rcases hu with rfl | rfl | rfl
  · show ([46, 100, 101, 99, 108, 32] : Txt).length ≤ 140737488355328; decide
  · exact Qa H1
  · show ([40] : Txt).length ≤ 140737488355328; decide) (by decide)
 go_wp2_with fail
 refine hp.mono ?_
 clear hp x0 x1 x2 x3 x4 xf
 rintro en w2 ⟨rfl, c2, l2, s2⟩
 obtain ⟨x0, x1, x2, x3, x4⟩ := cx5 (s2).box
 have S2 := hide s2
 clear s2
 have hp := Qke (Qa S2).wr ⟨#[44, 32]⟩ (by decide) ((Qa HF).same Qbv (Qa S2).kept.below.size (fun q hq _ => (Qa S2).kept.below.block q hq)) fdT (fun f hf w c lg hw => Qkc hw f ((Qa H2).1 f hf).1 ((Qa H2).1 f hf).2) (Qa H2).2
 go_wp2_with fail
 refine hp.mono ?_
 clear hp x0 x1 x2 x3 x4
 intro en w3 ha
 obtain ⟨rfl, c3, l3, s3⟩ := (Qa S2).step ha
 obtain ⟨x0, x1, x2, x3, x4⟩ := cx5 (s3).box
 have S3 := hide s3
 clear s3 ha
 have hp := (Qa S3).add ⟨#[41]⟩ (by decide)
 go_wp2_with fail
 refine hp.mono ?_
 clear hp x0 x1 x2 x3 x4
 rintro en w4 ⟨rfl, c4, l4, s4⟩
 obtain ⟨x0, x1, x2, x3, x4⟩ := cx5 (s4).box
 have S4 := hide s4
 clear s4
 cases xi
 ·
  cases xo
  ·
   go_wp2_with fail
   go_end0
   exact (Qa S4).fin (by simp [dcT, (Qa HQ).1, (Qa HQ).2])
  have hp := (Qa S4).add ⟨#[32, 111, 117, 116, 112, 117, 116]⟩ (by decide)
  go_wp2_with fail
  refine hp.mono ?_
  clear hp x0 x1 x2 x3 x4
  rintro en w5 ⟨rfl, c5, l5, s5⟩
  obtain ⟨x0, x1, x2, x3, x4⟩ := cx5 (s5).box
  have S5 := hide s5
  clear s5
  go_wp2_with fail
  go_end0
  exact (Qa S5).fin (by simp [dcT, (Qa HQ).1, (Qa HQ).2])
 have hp := (Qa S4).add ⟨#[32, 105, 110, 112, 117, 116]⟩ (by decide)
 go_wp2_with fail
 refine hp.mono ?_
 clear hp x0 x1 x2 x3 x4
 rintro en w5 ⟨rfl, c5, l5, s5⟩
 obtain ⟨x0, x1, x2, x3, x4⟩ := cx5 (s5).box
 have S5 := hide s5
 clear s5
 cases xo
 ·
  go_wp2_with fail
  go_end0
  exact (Qa S5).fin (by simp [dcT, (Qa HQ).1, (Qa HQ).2])
 have hp := (Qa S5).add ⟨#[32, 111, 117, 116, 112, 117, 116]⟩ (by decide)
 go_wp2_with fail
 refine hp.mono ?_
 clear hp x0 x1 x2 x3 x4
 rintro en w6 ⟨rfl, c6, l6, s6⟩
 obtain ⟨x0, x1, x2, x3, x4⟩ := cx5 (s6).box
 have S6 := hide s6
 clear s6
 go_wp2_with fail
 go_end0
 exact (Qa S6).fin (by simp [dcT, (Qa HQ).1, (Qa HQ).2])
end
section
open Go.RowKit Go.Maps
def tyT (x : Typ) : Txt := ([46, 116, 121, 112, 101, 32] ++ x.name) ++ (if x.sub = [] then [32, 61, 32] ++ joinT [32, 124, 32] (x.ctors.map ctT) else [32, 60, 58, 32] ++ x.sub)
def ShC (x : Ctr) : Prop := Sh x.name ∧ (∀ f ∈ x.fields, Sh f.name ∧ Sh f.type)
theorem Qzr {B b : Nat} (x : Typ) (h1 : Sh x.name) (h2 : Sh x.sub) (h3 : ∀ y ∈ x.ctors, ShC y) : PtM 27 B b PTy x (tyT x) := by
 intro w c lg cs hcs h
 obtain ⟨xa, xn, xc, rfl, hfl⟩ := hcs
 obtain ⟨_, _, e⟩ := hfl.sl
 cases e
 have HF := hide hfl
 have H3 := hide (Ya h3 hfl.len)
 have H1 := hide (Ya h1 h2)
 obtain ⟨xs, hs⟩ : ∃ xs, x.sub = xs := ⟨_, rfl⟩
 rw [hs] at h2
 have HS := hide (Ya hs h2)
 rw [hs]
 clear hfl h1 h2 h3 hs
 have s1 := St.start (T := 94) h #[str x.name, str xs, .slice xa x.ctors.length xc, .int .i64 x.at_] (by decide)
 obtain ⟨w1, hw1⟩ : ∃ w1, w1 = w.alloc (.cells #[str x.name, str xs, .slice xa x.ctors.length xc, .int .i64 x.at_] 94) := ⟨_, rfl⟩
 rw [← hw1] at s1
 have xf : ∀ o, w1.frozen? ⟨w.heap.size, o, none⟩ = false := fun o => by simp [World.frozen?, s1.box]
 obtain ⟨x0, x1, x2, x3⟩ := cx4 (s1).box
 have HW1 := hide hw1
 have S1 := hide s1
 clear h hw1 s1
 cases xs with
 | nil =>
  rw [show str [] = Value.string ⟨#[]⟩ from rfl] at *
  go_enter Tryz.func27, Tryz.ntmps27
  go_upto_region 1 with fail
  rw [← Qa HW1]
  have hp := (Qa S1).put [[46, 116, 121, 112, 101, 32], x.name] #[.string ⟨#[46, 116, 121, 112, 101, 32]⟩, str x.name] (n := 2) rfl rfl (by
   intro u hu
   simp only [List.mem_cons, List.not_mem_nil, or_false] at hu
   rcases hu with rfl | rfl
   · show ([46, 116, 121, 112, 101, 32] : Txt).length ≤ 140737488355328; decide
   · exact (Qa H1).1) (by decide)
  go_wp2_with fail
  refine hp.mono ?_
  clear hp x0 x1 x2 x3 xf
  rintro en w2 ⟨rfl, c2, l2, s2⟩
  obtain ⟨x0, x1, x2, x3⟩ := cx4 (s2).box
  have S2 := hide s2
  clear s2
  have hp := (Qa S2).add ⟨#[32, 61, 32]⟩ (by decide)
  go_wp2_with fail
  refine hp.mono ?_
  clear hp x0 x1 x2 x3
  rintro en w3 ⟨rfl, c3, l3, s3⟩
  obtain ⟨x0, x1, x2, x3⟩ := cx4 (s3).box
  have S3 := hide s3
  clear s3
  have hp := Quc (Qa S3).wr ⟨#[32, 124, 32]⟩ (by decide) ((Qa HF).same Qex (Qa S3).kept.below.size (fun q hq _ => (Qa S3).kept.below.block q hq)) ctT (fun y hy => Qzl y ((Qa H3).1 y hy).1 ((Qa H3).1 y hy).2) (Qa H3).2
  go_wp2_with fail
  refine hp.mono ?_
  clear hp x0 x1 x2 x3
  intro en w4 ha
  obtain ⟨rfl, c4, l4, s4⟩ := (Qa S3).step ha
  obtain ⟨x0, x1, x2, x3⟩ := cx4 (s4).box
  have S4 := hide s4
  clear s4 ha
  go_wp2_with fail
  go_end0
  exact (Qa S4).fin (by simp [tyT, (Qa HS).1])
 | cons a xs =>
  have gq : ¬ (⟨(a :: xs).toArray⟩ : ByteArray) = ⟨#[]⟩ := fun e => by have := congrArg (fun z => z.data.size) e; simp at this
  go_enter Tryz.func27, Tryz.ntmps27
  go_upto_region 1 with fail
  rw [← Qa HW1]
  have hp := (Qa S1).put [[46, 116, 121, 112, 101, 32], x.name] #[.string ⟨#[46, 116, 121, 112, 101, 32]⟩, str x.name] (n := 2) rfl rfl (by
   intro u hu
   simp only [List.mem_cons, List.not_mem_nil, or_false] at hu
   rcases hu with rfl | rfl
   · show ([46, 116, 121, 112, 101, 32] : Txt).length ≤ 140737488355328; decide
   · exact (Qa H1).1) (by decide)
  go_wp2_with fail
  refine hp.mono ?_
  clear hp x0 x1 x2 x3 xf
  rintro en w2 ⟨rfl, c2, l2, s2⟩
  obtain ⟨x0, x1, x2, x3⟩ := cx4 (s2).box
  have S2 := hide s2
  clear s2
  have hp := (Qa S2).put [[32, 60, 58, 32], a :: xs] #[.string ⟨#[32, 60, 58, 32]⟩, str (a :: xs)] (n := 2) rfl rfl (by
   intro u hu
   simp only [List.mem_cons, List.not_mem_nil, or_false] at hu
   rcases hu with rfl | rfl
   · show ([32, 60, 58, 32] : Txt).length ≤ 140737488355328; decide
   · exact (Qa HS).2) (by decide)
  go_wp2_with fail
  refine hp.mono ?_
  clear hp x0 x1 x2 x3
  rintro en w3 ⟨rfl, c3, l3, s3⟩
  obtain ⟨x0, x1, x2, x3⟩ := cx4 (s3).box
  have S3 := hide s3
  clear s3
  go_wp2_with fail
  go_end0
  exact (Qa S3).fin (by simp [tyT, (Qa HS).1])
end
section
open Go.RowKit Go.Maps
theorem Qgz {w : World} {b o : Nat} {c0 c1 c2 c3 c4 c5 c6 c7 : Value} (h : ∀ q c, ([c0, c1, c2, c3, c4, c5, c6, c7] : List Value)[q]? = some c → w.cell? ⟨b, o + q, none⟩ = some c) : (coLoad (.pointer (some ⟨b, o, none⟩))).run Tryz.prog w = .ok (.agg #[c0, c1, c2, c3, c4, c5, c6, c7]) w :=
 run_loadAt_mid w b o 72 [c0, c1, c2, c3, c4, c5, c6, c7] _ (fun q v hq => h q v hq) Tryz.underlying72 rfl Qfz
theorem Qje (w : World) {c0 c1 c2 c3 c4 c5 c6 c7 : Value} (h1 : ∀ c ∈ ([c0, c1, c2, c3, c4, c5, c6, c7] : List Value), c.oneCell' = true) : (coStore (.pointer (some ⟨w.heap.size, 0, none⟩)) (.agg #[c0, c1, c2, c3, c4, c5, c6, c7])).run Tryz.prog (w.alloc coZ) = .ok () (w.alloc (.cells #[c0, c1, c2, c3, c4, c5, c6, c7] 72)) :=
 run_storeAt_new w 72 _ _ Qfz rfl (by simpa using h1)
theorem Qpu {cs : List Value} (h : cs.length = 8) : ∃ c0 c1 c2 c3 c4 c5 c6 c7, cs = [c0, c1, c2, c3, c4, c5, c6, c7] := by
 match cs, h with
 | [c0, c1, c2, c3, c4, c5, c6, c7], _ => exact ⟨c0, c1, c2, c3, c4, c5, c6, c7, rfl⟩
attribute [local go_sem ↓] Qfc Qei
theorem Qpt {B b : Nat} {c : Txt} {lg : Bool} {w : World} (h : Wr B b c lg w) {sa : Option Addr} {sc : Nat} {xs : List Cp} (hL : LsAt PCo 8 (fun q => q < B) w (.slice sa xs.length sc) xs) (T : Cp → Txt) (hW : ∀ x ∈ xs, PtM 31 B b PCo x (T x)) (hx : xs.length ≤ 9223372036854775807) :
  Calls Tryz.prog 30 #[.pointer (some ⟨b, 0, none⟩), .slice sa xs.length sc, .func (.func 31) #[.pointer (some ⟨b, 0, none⟩)] #[]] w fun e w' => WrA B b c lg (linesT (xs.map T)) w e w' := by
 have HH := hide h
 have HL := hide hL
 have HW := hide hW
 obtain ⟨n, hn⟩ : ∃ n, xs.length = n := ⟨_, rfl⟩
 rw [hn]
 have HN := hide hn
 have hn6 : n ≤ 9223372036854775807 := by omega
 clear h hL hW hn hx
 go_enter Tryz.func30, Tryz.ntmps30
 go_wp2_with fail
 go_loopw [10] (fun v wr => ∃ (j : Nat) (c1 : Txt) (l1 : Bool), v = .int .i64 (j : Int) ∧ j ≤ n ∧ Hid (Kept B b w wr ∧ Wr B b c1 l1 wr ∧ WT c lg (linesT ((xs.map T).take j)) c1 l1)) (fun v _ => n - (intOf v).toNat)
 case atStart => exact ⟨0, c, lg, rfl, Nat.zero_le _, hide ⟨Kept.refl _ _ _, Qa HH, WT.refl _ _ (Qa HH).few⟩⟩
 obtain ⟨j, t1, l1, rfl, hj, HI⟩ := hrel
 by_cases hlt : j < n
 ·
  obtain ⟨x, hxj⟩ : ∃ x, xs[j]? = some x := ⟨xs[j]'(by rw [Qa HN]; exact hlt), List.getElem?_eq_getElem _⟩
  obtain ⟨gb, cap, cs, e1, hgb, hS, hl, hcs, hc⟩ := ((Qa HL).same Qbb (Qa HI).1.below.size (fun q hq _ => (Qa HI).1.below.block q hq)).elem hxj
  obtain ⟨c0, c1, c2, c3, c4, c5, c6, c7, rfl⟩ := Qpu hl
  simp only [Value.slice.injEq] at e1
  obtain ⟨rfl, -, -⟩ := e1
  have hwx := Qa HW x (List.mem_of_getElem? hxj)
  have htk : (xs.map T).take (j + 1) = (xs.map T).take j ++ [T x] := by rw [List.take_add_one, List.getElem?_map, hxj]; rfl
  have hB : B ≤ wr.heap.size := (Qa HI).2.1.hB
  obtain ⟨w2, hw2⟩ : ∃ w2, w2 = wr.alloc (.cells #[c0, c1, c2, c3, c4, c5, c6, c7] 72) := ⟨_, rfl⟩
  have b2 : Below wr.heap.size wr w2 := bnw hw2
  have n2 : w2.heap[wr.heap.size]? = some (.cells #[c0, c1, c2, c3, c4, c5, c6, c7] 72 (0, 0)) := nnw hw2
  have h2 := (Qa HI).2.1.later b2
  have k2 := (Qa HI).1.trans (Kept.later (b := b) hB b2)
  have L1 := Qgz (w := wr) (b := gb) (o := j * 8) hc
  have N1 := Qje wr (Qiq hcs)
  rw [← hw2] at N1
  have q2 : PCo (fun q => q < B) w2 [c0, c1, c2, c3, c4, c5, c6, c7] x := Qbb.same _ _ _ _ _ hcs b2.size (fun q _ hl => b2.block q hl)
  obtain ⟨p, v, hbx, _⟩ := h2.box
  obtain ⟨_, _, u2, _, uf⟩ := cl3w hbx
  have hxne : wr.heap.size ≠ b := by have := (Qa HI).2.1.lt; omega
  have HK := hide (Ya k2 (Ya h2 (Ya n2 hxne)))
  have HQ := hide q2
  have HTK := hide (htk)
  have HWX := hide hwx
  clear q2 hgb hS hc hcs hl hxj hwx htk hB hw2 b2 n2 h2 k2 hbx hxne
  cases l1
  ·
   have L3 := Qgz (w := w2) (b := wr.heap.size) (o := 0) (fun q c hq => by rw [Qab ((Qa HK).2.2.1), Nat.zero_add]; simpa using hq)
   have hcl := Qa HWX w2 t1 false [c0, c1, c2, c3, c4, c5, c6, c7] (Qa HQ) (Qa HK).2.1
   go_wp2_with fail
   refine hcl.mono ?_
   clear hcl L1 N1 L3
   rintro en w3 ⟨rfl, k3, t3, l3, h3, e3⟩
   have had := Qbn h3 ⟨#[10]⟩ (by decide)
   have H3 := hide (Ya k3 e3)
   clear k3 h3 e3
   go_wp2_with fail
   refine had.mono ?_
   clear had
   rintro en w4 ⟨rfl, k4, t4, l4, h4, e4⟩
   have H4 := hide (Ya k4 (Ya h4 e4))
   clear k4 h4 e4
   go_wp2_with fail
   go_roundw
   case rel =>
    obtain ⟨k3, e3⟩ := Qa H3
    obtain ⟨k4, h4, e4⟩ := Qa H4
    refine ⟨j + 1, t4, l4, by go_num, by omega, hide ⟨((Qa HK).1.trans k3).trans k4, h4, ?_⟩⟩
    rw [Qa HTK, Qdm]
    exact (Qa HI).2.2.trans (e3.trans e4)
   case measure => simp [intOf]; omega
  go_wp2_with fail
  go_end0
  obtain ⟨k2, h2, _⟩ := Qa HK
  refine ⟨rfl, k2, t1, true, h2, (Qa HI).2.2.cut ?_⟩
  have := Qfb ((xs.map T).take j) ((xs.map T).drop j)
  rwa [List.take_append_drop] at this
 have ej : j = n := by omega
 have HE := hide (show (xs.map T).take j = xs.map T by rw [ej, ← Qa HN, ← List.length_map (f := T)]; exact List.take_length)
 clear ej
 go_wp2_with fail
 go_end0
 refine ⟨rfl, (Qa HI).1, t1, l1, (Qa HI).2.1, ?_⟩
 have := (Qa HI).2.2
 rw [Qa HE] at this
 exact this
end
section
open Go.RowKit Go.Maps
theorem Quf {B b : Nat} {c : Txt} {lg : Bool} {w : World} (h : Wr B b c lg w) (sep : ByteArray) (hsep : sep.size ≤ 64) {sa : Option Addr} {sc : Nat} {xs : List Txt} (hL : LsAt PSt 1 (fun q => q < B) w (.slice sa xs.length sc) xs) (hW : ∀ x ∈ xs, Sh x) (hx : xs.length ≤ 9223372036854775807) :
  Calls Tryz.prog 68 #[.pointer (some ⟨b, 0, none⟩), .string sep, .slice sa xs.length sc, .func (.func 62) #[.pointer (some ⟨b, 0, none⟩)] #[]] w fun e w' => WrA B b c lg (joinT sep.data.toList (xs)) w e w' := by
 have HH := hide h
 have HL := hide hL
 have HW := hide hW
 obtain ⟨n, hn⟩ : ∃ n, xs.length = n := ⟨_, rfl⟩
 rw [hn]
 have HN := hide hn
 have hn6 : n ≤ 9223372036854775807 := by omega
 clear h hL hW hn hx
 go_enter Tryz.func68, Tryz.ntmps68
 go_wp2_with fail
 go_loopw [12] (fun v wr => ∃ (j : Nat) (c1 : Txt) (l1 : Bool), v = .int .i64 (j : Int) ∧ j ≤ n ∧ Hid (Kept B b w wr ∧ Wr B b c1 l1 wr ∧ WT c lg (joinT sep.data.toList ((xs).take j)) c1 l1)) (fun v _ => n - (intOf v).toNat)
 case atStart => exact ⟨0, c, lg, rfl, Nat.zero_le _, hide ⟨Kept.refl _ _ _, Qa HH, WT.refl _ _ (Qa HH).few⟩⟩
 obtain ⟨j, c1, l1, rfl, hj, HI⟩ := hrel
 by_cases hlt : j < n
 ·
  obtain ⟨x, hxj⟩ : ∃ x, xs[j]? = some x := ⟨xs[j]'(by rw [Qa HN]; exact hlt), List.getElem?_eq_getElem _⟩
  obtain ⟨gb, cap, cs, e1, hgb, hS, _, hcs, hc⟩ := ((Qa HL).same Qbj (Qa HI).1.below.size (fun q hq _ => (Qa HI).1.below.block q hq)).elem hxj
  obtain rfl : cs = [str x] := hcs
  simp only [Value.slice.injEq] at e1
  obtain ⟨rfl, -, -⟩ := e1
  have x0 : wr.cell? ⟨gb, j, none⟩ = some (str x) := by have := hc 0 _ rfl; simpa using this
  have hwx := Qa HW x (List.mem_of_getElem? hxj)
  have htk : xs.take (j + 1) = xs.take j ++ [x] := by rw [List.take_add_one, hxj]; rfl
  have htn : j ≠ 0 → (xs).take j ≠ [] := fun h0 e => by
   have := congrArg List.length e
   rw [List.length_take, Qa HN] at this
   simp at this
   omega
  obtain ⟨p, v, hbx, _⟩ := (Qa HI).2.1.box
  obtain ⟨_, _, u2, _, uf⟩ := cl3w hbx
  have HTK := hide (Ya htk htn)
  have HWX := hide hwx
  clear hgb hS hc hxj hwx htk htn hbx
  cases l1
  ·
   by_cases h0 : j = 0
   ·
    have g0 : ¬ ((0 : Int) < (j : Int)) := by omega
    have hcl := Qbn (Qa HI).2.1 ⟨x.toArray⟩ (by have h2 : x.length ≤ 140737488355328 := Qa HWX; simpa [ByteArray.size] using h2)
    rw [show (Value.string ⟨x.toArray⟩) = str x from rfl] at hcl
    have H0 := hide h0
    clear h0
    go_wp2_with fail
    refine hcl.mono ?_
    clear hcl
    rintro en w3 ⟨rfl, k3, c3, l3, h3, t3⟩
    have H3 := hide (Ya k3 (Ya h3 t3))
    clear k3 h3 t3
    go_wp2_with fail
    go_roundw
    case rel =>
     obtain ⟨k3, h3, t3⟩ := Qa H3
     refine ⟨j + 1, c3, l3, by go_num, by omega, hide ⟨(Qa HI).1.trans k3, h3, ?_⟩⟩
     rw [(Qa HTK).1, Qa H0, List.take_zero]
     have q := (Qa HI).2.2
     rw [Qa H0, List.take_zero] at q
     have := q.trans t3
     simpa [joinT] using this
    case measure => simp [intOf]; omega
   have g0 : (0 : Int) < (j : Int) := by omega
   have had := Qbn (Qa HI).2.1 sep (by omega)
   have H0 := hide h0
   clear h0
   go_wp2_with fail
   refine had.mono ?_
   clear had
   rintro en w3 ⟨rfl, k3, c3, l3, h3, t3⟩
   have hcl := Qbn h3 ⟨x.toArray⟩ (by have h2 : x.length ≤ 140737488355328 := Qa HWX; simpa [ByteArray.size] using h2)
   rw [show (Value.string ⟨x.toArray⟩) = str x from rfl] at hcl
   have H3 := hide (Ya k3 t3)
   clear k3 h3 t3
   go_wp2_with fail
   refine hcl.mono ?_
   clear hcl
   rintro en w4 ⟨rfl, k4, c4, l4, h4, t4⟩
   have H4 := hide (Ya k4 (Ya h4 t4))
   clear k4 h4 t4
   go_wp2_with fail
   go_roundw
   case rel =>
    obtain ⟨k3, t3⟩ := Qa H3
    obtain ⟨k4, h4, t4⟩ := Qa H4
    refine ⟨j + 1, c4, l4, by go_num, by omega, hide ⟨((Qa HI).1.trans k3).trans k4, h4, ?_⟩⟩
    rw [(Qa HTK).1, Qec, if_neg ((Qa HTK).2 (Qa H0))]
    exact ((Qa HI).2.2.trans t3).trans t4
   case measure => simp [intOf]; omega
  go_wp2_with fail
  go_end0
  refine ⟨rfl, (Qa HI).1, c1, true, (Qa HI).2.1, (Qa HI).2.2.cut ?_⟩
  have := Qge sep.data.toList ((xs).take j) ((xs).drop j)
  rwa [List.take_append_drop] at this
 have ej : j = n := by omega
 have HE := hide (show (xs).take j = xs by rw [ej, ← Qa HN]; exact List.take_length)
 clear ej
 go_wp2_with fail
 go_end0
 refine ⟨rfl, (Qa HI).1, c1, l1, (Qa HI).2.1, ?_⟩
 have := (Qa HI).2.2
 rw [Qa HE] at this
 exact this
end
section
open Go.RowKit Go.Maps
theorem Qpy {B b : Nat} {c : Txt} {lg : Bool} {w : World} (h : Wr B b c lg w) {sa : Option Addr} {sc : Nat} {xs : List Typ} (hL : LsAt PTy 4 (fun q => q < B) w (.slice sa xs.length sc) xs) (T : Typ → Txt) (hW : ∀ x ∈ xs, PtM 27 B b PTy x (T x)) (hx : xs.length ≤ 9223372036854775807) :
  Calls Tryz.prog 26 #[.pointer (some ⟨b, 0, none⟩), .slice sa xs.length sc, .func (.func 27) #[.pointer (some ⟨b, 0, none⟩)] #[]] w fun e w' => WrA B b c lg (linesT (xs.map T)) w e w' := by
 have HH := hide h
 have HL := hide hL
 have HW := hide hW
 obtain ⟨n, hn⟩ : ∃ n, xs.length = n := ⟨_, rfl⟩
 rw [hn]
 have HN := hide hn
 have hn6 : n ≤ 9223372036854775807 := by omega
 clear h hL hW hn hx
 go_enter Tryz.func26, Tryz.ntmps26
 go_wp2_with fail
 go_loopw [10] (fun v wr => ∃ (j : Nat) (c1 : Txt) (l1 : Bool), v = .int .i64 (j : Int) ∧ j ≤ n ∧ Hid (Kept B b w wr ∧ Wr B b c1 l1 wr ∧ WT c lg (linesT ((xs.map T).take j)) c1 l1)) (fun v _ => n - (intOf v).toNat)
 case atStart => exact ⟨0, c, lg, rfl, Nat.zero_le _, hide ⟨Kept.refl _ _ _, Qa HH, WT.refl _ _ (Qa HH).few⟩⟩
 obtain ⟨j, c1, l1, rfl, hj, HI⟩ := hrel
 by_cases hlt : j < n
 ·
  obtain ⟨x, hxj⟩ : ∃ x, xs[j]? = some x := ⟨xs[j]'(by rw [Qa HN]; exact hlt), List.getElem?_eq_getElem _⟩
  obtain ⟨gb, cap, cs, e1, hgb, hS, _, hcs, hc⟩ := ((Qa HL).same Qbq (Qa HI).1.below.size (fun q hq _ => (Qa HI).1.below.block q hq)).elem hxj
  have HCS := hide hcs
  obtain ⟨xa, xn, xc, rfl, _⟩ := hcs
  simp only [Value.slice.injEq] at e1
  obtain ⟨rfl, -, -⟩ := e1
  have x0 : wr.cell? ⟨gb, j * 4, none⟩ = some (str x.name) := hc 0 _ rfl
  have x1 : wr.cell? ⟨gb, j * 4 + 1, none⟩ = some (str x.sub) := hc 1 _ rfl
  have x2 : wr.cell? ⟨gb, j * 4 + 2, none⟩ = some (.slice xa xn xc) := hc 2 _ rfl
  have x3 : wr.cell? ⟨gb, j * 4 + 3, none⟩ = some (.int .i64 x.at_) := hc 3 _ rfl
  have hwx := Qa HW x (List.mem_of_getElem? hxj)
  have htk : (xs.map T).take (j + 1) = (xs.map T).take j ++ [T x] := by rw [List.take_add_one, List.getElem?_map, hxj]; rfl
  have hB : B ≤ wr.heap.size := Nat.le_trans (Qa HI).2.1.le (Nat.le_of_lt (Qa HI).2.1.lt)
  obtain ⟨xb, hxb⟩ : ∃ xb, wr.heap.size = xb := ⟨_, rfl⟩
  obtain ⟨w2, hw2⟩ : ∃ w2, w2 = wr.alloc (.cells #[str x.name, str x.sub, .slice xa xn xc, .int .i64 x.at_] 94) := ⟨_, rfl⟩
  have b2 : Below wr.heap.size wr w2 := bnw hw2
  have n2 : w2.heap[xb]? = some (.cells #[str x.name, str x.sub, .slice xa xn xc, .int .i64 x.at_] 94 (0, 0)) := by rw [hw2, ← hxb]; exact heap_alloc_new wr _
  have h2 := (Qa HI).2.1.later b2
  have k2 := (Qa HI).1.trans (Kept.later (b := b) hB b2)
  have q2 : PTy (fun q => q < B) w2 [str x.name, str x.sub, .slice xa xn xc, .int .i64 x.at_] x := Qbq.same _ _ _ _ _ (Qa HCS) b2.size (fun q _ hl => b2.block q hl)
  obtain ⟨p, v, hbx, _⟩ := h2.box
  obtain ⟨_, _, u2, _, uf⟩ := cl3w hbx
  obtain ⟨y0, y1, y2, y3⟩ : w2.cell? ⟨xb, 0, none⟩ = some (str x.name) ∧ w2.cell? ⟨xb, 1, none⟩ = some (str x.sub) ∧ w2.cell? ⟨xb, 2, none⟩ = some (.slice xa xn xc) ∧ w2.cell? ⟨xb, 3, none⟩ = some (.int .i64 x.at_) := ⟨(Qab n2 0).trans rfl, (Qab n2 1).trans rfl, (Qab n2 2).trans rfl, (Qab n2 3).trans rfl⟩
  have HW2 := hide (Ya hw2 hxb)
  have HK := hide (Ya k2 h2)
  have HTK := hide htk
  have hcl := hwx w2 c1 l1 [str x.name, str x.sub, .slice xa xn xc, .int .i64 x.at_] q2 h2
  clear q2 HCS hgb hS hc hxj hwx htk hB hxb hw2 b2 n2 h2 k2 hbx
  cases l1
  ·
   go_upto_region 3 with fail
   rw [← (Qa HW2).1, (Qa HW2).2]
   go_wp2_with fail
   refine hcl.mono ?_
   clear hcl
   rintro en w3 ⟨rfl, k3, c3, l3, h3, t3⟩
   have had := Qbn h3 ⟨#[10]⟩ (by decide)
   have H3 := hide (Ya k3 t3)
   clear k3 h3 t3
   go_wp2_with fail
   refine had.mono ?_
   clear had
   rintro en w4 ⟨rfl, k4, c4, l4, h4, t4⟩
   have H4 := hide (Ya k4 (Ya h4 t4))
   clear k4 h4 t4
   go_wp2_with fail
   go_roundw
   case rel =>
    obtain ⟨k3, t3⟩ := Qa H3
    obtain ⟨k4, h4, t4⟩ := Qa H4
    refine ⟨j + 1, c4, l4, by go_num, by omega, hide ⟨((Qa HK).1.trans k3).trans k4, h4, ?_⟩⟩
    rw [Qa HTK, Qdm]
    exact (Qa HI).2.2.trans (t3.trans t4)
   case measure => simp [intOf]; omega
  go_upto_region 3 with fail
  rw [← (Qa HW2).1, (Qa HW2).2]
  go_wp2_with fail
  go_end0
  obtain ⟨k2, h2⟩ := Qa HK
  refine ⟨rfl, k2, c1, true, h2, (Qa HI).2.2.cut ?_⟩
  have := Qfb ((xs.map T).take j) ((xs.map T).drop j)
  rwa [List.take_append_drop] at this
 have ej : j = n := by omega
 have HE := hide (show (xs.map T).take j = xs.map T by rw [ej, ← Qa HN, ← List.length_map (f := T)]; exact List.take_length)
 clear ej
 go_wp2_with fail
 go_end0
 refine ⟨rfl, (Qa HI).1, c1, l1, (Qa HI).2.1, ?_⟩
 have := (Qa HI).2.2
 rw [Qa HE] at this
 exact this
end
section
open Go.RowKit Go.Maps
theorem Qpv {B b : Nat} {c : Txt} {lg : Bool} {w : World} (h : Wr B b c lg w) {sa : Option Addr} {sc : Nat} {xs : List Dcl} (hL : LsAt PDc 5 (fun q => q < B) w (.slice sa xs.length sc) xs) (T : Dcl → Txt) (hW : ∀ x ∈ xs, PtM 29 B b PDc x (T x)) (hx : xs.length ≤ 9223372036854775807) :
  Calls Tryz.prog 28 #[.pointer (some ⟨b, 0, none⟩), .slice sa xs.length sc, .func (.func 29) #[.pointer (some ⟨b, 0, none⟩)] #[]] w fun e w' => WrA B b c lg (linesT (xs.map T)) w e w' := by
 have HH := hide h
 have HL := hide hL
 have HW := hide hW
 obtain ⟨n, hn⟩ : ∃ n, xs.length = n := ⟨_, rfl⟩
 rw [hn]
 have HN := hide hn
 have hn6 : n ≤ 9223372036854775807 := by omega
 clear h hL hW hn hx
 go_enter Tryz.func28, Tryz.ntmps28
 go_wp2_with fail
 go_loopw [10] (fun v wr => ∃ (j : Nat) (c1 : Txt) (l1 : Bool), v = .int .i64 (j : Int) ∧ j ≤ n ∧ Hid (Kept B b w wr ∧ Wr B b c1 l1 wr ∧ WT c lg (linesT ((xs.map T).take j)) c1 l1)) (fun v _ => n - (intOf v).toNat)
 case atStart => exact ⟨0, c, lg, rfl, Nat.zero_le _, hide ⟨Kept.refl _ _ _, Qa HH, WT.refl _ _ (Qa HH).few⟩⟩
 obtain ⟨j, c1, l1, rfl, hj, HI⟩ := hrel
 by_cases hlt : j < n
 ·
  obtain ⟨x, hxj⟩ : ∃ x, xs[j]? = some x := ⟨xs[j]'(by rw [Qa HN]; exact hlt), List.getElem?_eq_getElem _⟩
  obtain ⟨gb, cap, cs, e1, hgb, hS, _, hcs, hc⟩ := ((Qa HL).same Qbp (Qa HI).1.below.size (fun q hq _ => (Qa HI).1.below.block q hq)).elem hxj
  have HCS := hide hcs
  obtain ⟨xa, xn, xc, rfl, _⟩ := hcs
  simp only [Value.slice.injEq] at e1
  obtain ⟨rfl, -, -⟩ := e1
  have x0 : wr.cell? ⟨gb, j * 5, none⟩ = some (str x.name) := hc 0 _ rfl
  have x1 : wr.cell? ⟨gb, j * 5 + 1, none⟩ = some (.slice xa xn xc) := hc 1 _ rfl
  have x2 : wr.cell? ⟨gb, j * 5 + 2, none⟩ = some (.bool x.input) := hc 2 _ rfl
  have x3 : wr.cell? ⟨gb, j * 5 + 3, none⟩ = some (.bool x.output) := hc 3 _ rfl
  have x4 : wr.cell? ⟨gb, j * 5 + 4, none⟩ = some (.int .i64 x.at_) := hc 4 _ rfl
  have hwx := Qa HW x (List.mem_of_getElem? hxj)
  have htk : (xs.map T).take (j + 1) = (xs.map T).take j ++ [T x] := by rw [List.take_add_one, List.getElem?_map, hxj]; rfl
  have hB : B ≤ wr.heap.size := Nat.le_trans (Qa HI).2.1.le (Nat.le_of_lt (Qa HI).2.1.lt)
  obtain ⟨xb, hxb⟩ : ∃ xb, wr.heap.size = xb := ⟨_, rfl⟩
  obtain ⟨w2, hw2⟩ : ∃ w2, w2 = wr.alloc (.cells #[str x.name, .slice xa xn xc, .bool x.input, .bool x.output, .int .i64 x.at_] 99) := ⟨_, rfl⟩
  have b2 : Below wr.heap.size wr w2 := bnw hw2
  have n2 : w2.heap[xb]? = some (.cells #[str x.name, .slice xa xn xc, .bool x.input, .bool x.output, .int .i64 x.at_] 99 (0, 0)) := by rw [hw2, ← hxb]; exact heap_alloc_new wr _
  have h2 := (Qa HI).2.1.later b2
  have k2 := (Qa HI).1.trans (Kept.later (b := b) hB b2)
  have q2 : PDc (fun q => q < B) w2 [str x.name, .slice xa xn xc, .bool x.input, .bool x.output, .int .i64 x.at_] x := Qbp.same _ _ _ _ _ (Qa HCS) b2.size (fun q _ hl => b2.block q hl)
  obtain ⟨p, v, hbx, _⟩ := h2.box
  obtain ⟨_, _, u2, _, uf⟩ := cl3w hbx
  obtain ⟨y0, y1, y2, y3, y4⟩ : w2.cell? ⟨xb, 0, none⟩ = some (str x.name) ∧ w2.cell? ⟨xb, 1, none⟩ = some (.slice xa xn xc) ∧ w2.cell? ⟨xb, 2, none⟩ = some (.bool x.input) ∧ w2.cell? ⟨xb, 3, none⟩ = some (.bool x.output) ∧ w2.cell? ⟨xb, 4, none⟩ = some (.int .i64 x.at_) := ⟨(Qab n2 0).trans rfl, (Qab n2 1).trans rfl, (Qab n2 2).trans rfl, (Qab n2 3).trans rfl, (Qab n2 4).trans rfl⟩
  have HW2 := hide (Ya hw2 hxb)
  have HK := hide (Ya k2 h2)
  have HTK := hide htk
  have hcl := hwx w2 c1 l1 [str x.name, .slice xa xn xc, .bool x.input, .bool x.output, .int .i64 x.at_] q2 h2
  clear q2 HCS hgb hS hc hxj hwx htk hB hxb hw2 b2 n2 h2 k2 hbx
  cases l1
  ·
   go_upto_region 3 with fail
   rw [← (Qa HW2).1, (Qa HW2).2]
   go_wp2_with fail
   refine hcl.mono ?_
   clear hcl
   rintro en w3 ⟨rfl, k3, c3, l3, h3, t3⟩
   have had := Qbn h3 ⟨#[10]⟩ (by decide)
   have H3 := hide (Ya k3 t3)
   clear k3 h3 t3
   go_wp2_with fail
   refine had.mono ?_
   clear had
   rintro en w4 ⟨rfl, k4, c4, l4, h4, t4⟩
   have H4 := hide (Ya k4 (Ya h4 t4))
   clear k4 h4 t4
   go_wp2_with fail
   go_roundw
   case rel =>
    obtain ⟨k3, t3⟩ := Qa H3
    obtain ⟨k4, h4, t4⟩ := Qa H4
    refine ⟨j + 1, c4, l4, by go_num, by omega, hide ⟨((Qa HK).1.trans k3).trans k4, h4, ?_⟩⟩
    rw [Qa HTK, Qdm]
    exact (Qa HI).2.2.trans (t3.trans t4)
   case measure => simp [intOf]; omega
  go_upto_region 3 with fail
  rw [← (Qa HW2).1, (Qa HW2).2]
  go_wp2_with fail
  go_end0
  obtain ⟨k2, h2⟩ := Qa HK
  refine ⟨rfl, k2, c1, true, h2, (Qa HI).2.2.cut ?_⟩
  have := Qfb ((xs.map T).take j) ((xs.map T).drop j)
  rwa [List.take_append_drop] at this
 have ej : j = n := by omega
 have HE := hide (show (xs.map T).take j = xs.map T by rw [ej, ← Qa HN, ← List.length_map (f := T)]; exact List.take_length)
 clear ej
 go_wp2_with fail
 go_end0
 refine ⟨rfl, (Qa HI).1, c1, l1, (Qa HI).2.1, ?_⟩
 have := (Qa HI).2.2
 rw [Qa HE] at this
 exact this
end
section
open Go.RowKit Go.Maps
theorem Qpx {B b : Nat} {c : Txt} {lg : Bool} {w : World} (h : Wr B b c lg w) {sa : Option Addr} {sc : Nat} {xs : List Cls} (hL : LsAt PCl 5 (fun q => q < B) w (.slice sa xs.length sc) xs) (T : Cls → Txt) (hW : ∀ x ∈ xs, PtM 35 B b PCl x (T x)) (hx : xs.length ≤ 9223372036854775807) :
  Calls Tryz.prog 34 #[.pointer (some ⟨b, 0, none⟩), .slice sa xs.length sc, .func (.func 35) #[.pointer (some ⟨b, 0, none⟩)] #[]] w fun e w' => WrA B b c lg (linesT (xs.map T)) w e w' := by
 have HH := hide h
 have HL := hide hL
 have HW := hide hW
 obtain ⟨n, hn⟩ : ∃ n, xs.length = n := ⟨_, rfl⟩
 rw [hn]
 have HN := hide hn
 have hn6 : n ≤ 9223372036854775807 := by omega
 clear h hL hW hn hx
 go_enter Tryz.func34, Tryz.ntmps34
 go_wp2_with fail
 go_loopw [10] (fun v wr => ∃ (j : Nat) (c1 : Txt) (l1 : Bool), v = .int .i64 (j : Int) ∧ j ≤ n ∧ Hid (Kept B b w wr ∧ Wr B b c1 l1 wr ∧ WT c lg (linesT ((xs.map T).take j)) c1 l1)) (fun v _ => n - (intOf v).toNat)
 case atStart => exact ⟨0, c, lg, rfl, Nat.zero_le _, hide ⟨Kept.refl _ _ _, Qa HH, WT.refl _ _ (Qa HH).few⟩⟩
 obtain ⟨j, c1, l1, rfl, hj, HI⟩ := hrel
 by_cases hlt : j < n
 ·
  obtain ⟨x, hxj⟩ : ∃ x, xs[j]? = some x := ⟨xs[j]'(by rw [Qa HN]; exact hlt), List.getElem?_eq_getElem _⟩
  obtain ⟨gb, cap, cs, e1, hgb, hS, _, hcs, hc⟩ := ((Qa HL).same Qbg (Qa HI).1.below.size (fun q hq _ => (Qa HI).1.below.block q hq)).elem hxj
  have HCS := hide hcs
  obtain ⟨aa, an, ac, ba, bn, bc, rfl, _, _⟩ := hcs
  simp only [Value.slice.injEq] at e1
  obtain ⟨rfl, -, -⟩ := e1
  have x0 : wr.cell? ⟨gb, j * 5, none⟩ = some (str x.head.rel) := hc 0 _ rfl
  have x1 : wr.cell? ⟨gb, j * 5 + 1, none⟩ = some (.slice aa an ac) := hc 1 _ rfl
  have x2 : wr.cell? ⟨gb, j * 5 + 2, none⟩ = some (.int .i64 x.head.at_) := hc 2 _ rfl
  have x3 : wr.cell? ⟨gb, j * 5 + 3, none⟩ = some (.slice ba bn bc) := hc 3 _ rfl
  have x4 : wr.cell? ⟨gb, j * 5 + 4, none⟩ = some (.int .i64 x.at_) := hc 4 _ rfl
  have hwx := Qa HW x (List.mem_of_getElem? hxj)
  have htk : (xs.map T).take (j + 1) = (xs.map T).take j ++ [T x] := by rw [List.take_add_one, List.getElem?_map, hxj]; rfl
  have hB : B ≤ wr.heap.size := Nat.le_trans (Qa HI).2.1.le (Nat.le_of_lt (Qa HI).2.1.lt)
  obtain ⟨xb, hxb⟩ : ∃ xb, wr.heap.size = xb := ⟨_, rfl⟩
  obtain ⟨w2, hw2⟩ : ∃ w2, w2 = wr.alloc (.cells #[str x.head.rel, .slice aa an ac, .int .i64 x.head.at_, .slice ba bn bc, .int .i64 x.at_] 64) := ⟨_, rfl⟩
  have b2 : Below wr.heap.size wr w2 := bnw hw2
  have n2 : w2.heap[xb]? = some (.cells #[str x.head.rel, .slice aa an ac, .int .i64 x.head.at_, .slice ba bn bc, .int .i64 x.at_] 64 (0, 0)) := by rw [hw2, ← hxb]; exact heap_alloc_new wr _
  have h2 := (Qa HI).2.1.later b2
  have k2 := (Qa HI).1.trans (Kept.later (b := b) hB b2)
  have q2 : PCl (fun q => q < B) w2 [str x.head.rel, .slice aa an ac, .int .i64 x.head.at_, .slice ba bn bc, .int .i64 x.at_] x := Qbg.same _ _ _ _ _ (Qa HCS) b2.size (fun q _ hl => b2.block q hl)
  obtain ⟨p, v, hbx, _⟩ := h2.box
  obtain ⟨_, _, u2, _, uf⟩ := cl3w hbx
  obtain ⟨y0, y1, y2, y3, y4⟩ : w2.cell? ⟨xb, 0, none⟩ = some (str x.head.rel) ∧ w2.cell? ⟨xb, 1, none⟩ = some (.slice aa an ac) ∧ w2.cell? ⟨xb, 2, none⟩ = some (.int .i64 x.head.at_) ∧ w2.cell? ⟨xb, 3, none⟩ = some (.slice ba bn bc) ∧ w2.cell? ⟨xb, 4, none⟩ = some (.int .i64 x.at_) := ⟨(Qab n2 0).trans rfl, (Qab n2 1).trans rfl, (Qab n2 2).trans rfl, (Qab n2 3).trans rfl, (Qab n2 4).trans rfl⟩
  have HW2 := hide (Ya hw2 hxb)
  have HK := hide (Ya k2 h2)
  have HTK := hide htk
  have hcl := hwx w2 c1 l1 [str x.head.rel, .slice aa an ac, .int .i64 x.head.at_, .slice ba bn bc, .int .i64 x.at_] q2 h2
  clear q2 HCS hgb hS hc hxj hwx htk hB hxb hw2 b2 n2 h2 k2 hbx
  cases l1
  ·
   go_upto_region 3 with fail
   rw [← (Qa HW2).1, (Qa HW2).2]
   go_wp2_with fail
   refine hcl.mono ?_
   clear hcl
   rintro en w3 ⟨rfl, k3, c3, l3, h3, t3⟩
   have had := Qbn h3 ⟨#[10]⟩ (by decide)
   have H3 := hide (Ya k3 t3)
   clear k3 h3 t3
   go_wp2_with fail
   refine had.mono ?_
   clear had
   rintro en w4 ⟨rfl, k4, c4, l4, h4, t4⟩
   have H4 := hide (Ya k4 (Ya h4 t4))
   clear k4 h4 t4
   go_wp2_with fail
   go_roundw
   case rel =>
    obtain ⟨k3, t3⟩ := Qa H3
    obtain ⟨k4, h4, t4⟩ := Qa H4
    refine ⟨j + 1, c4, l4, by go_num, by omega, hide ⟨((Qa HK).1.trans k3).trans k4, h4, ?_⟩⟩
    rw [Qa HTK, Qdm]
    exact (Qa HI).2.2.trans (t3.trans t4)
   case measure => simp [intOf]; omega
  go_upto_region 3 with fail
  rw [← (Qa HW2).1, (Qa HW2).2]
  go_wp2_with fail
  go_end0
  obtain ⟨k2, h2⟩ := Qa HK
  refine ⟨rfl, k2, c1, true, h2, (Qa HI).2.2.cut ?_⟩
  have := Qfb ((xs.map T).take j) ((xs.map T).drop j)
  rwa [List.take_append_drop] at this
 have ej : j = n := by omega
 have HE := hide (show (xs.map T).take j = xs.map T by rw [ej, ← Qa HN, ← List.length_map (f := T)]; exact List.take_length)
 clear ej
 go_wp2_with fail
 go_end0
 refine ⟨rfl, (Qa HI).1, c1, l1, (Qa HI).2.1, ?_⟩
 have := (Qa HI).2.2
 rw [Qa HE] at this
 exact this
end
end Go.Proofs.YtccehgfecaamoaaGreatDoor
