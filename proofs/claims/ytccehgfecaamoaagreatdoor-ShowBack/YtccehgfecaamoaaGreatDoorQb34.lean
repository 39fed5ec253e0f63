/- ShowBack: deepExpr. A region that leaves its order open: where two or three operations are ready, every way. ShowBack: deepProg. syn: SameExpr, as a chain. -/
import Derived.Test.YtccehgfecaamoaaGreatDoorQb33
import Derived.Test.YtccehgfecaamoaaGreatDoorQb08
import Derived.Test.YtccehgfecaamoaaGreatDoorQb24
import Derived.Test.YtccehgfecaamoaaGreatDoorQb25
import Derived.Test.YtccehgfecaamoaaGreatDoorQb21
set_option maxRecDepth 100000
set_option maxHeartbeats 32000000
namespace Go.Proofs.YtccehgfecaamoaaGreatDoor
section
open Go.RowKit Go.Maps
def Kd (xs : List Ex) : Prop := dpEs xs ≤ 70000 → ∀ (S : Nat → Prop) (w : World) (sa : Option Addr) (sc : Nat), LsAt PE 5 S w (.slice sa xs.length sc) xs →
 Calls Tryz.prog 16 #[.slice sa xs.length sc] w fun en w' => en = .returned (.int .i64 (dpEs xs : Int)) ∧ Below w.heap.size w w'
theorem Qcy (xs : List Ex) (hx : ∀ x ∈ xs, Kd x.kids) : Kd xs := by
 intro hB S w sa sc hL
 have HX := hide hx
 have HL := hide hL
 have HBd := hide hB
 have hlen := hL.len
 obtain ⟨n, hn⟩ : ∃ n, xs.length = n := ⟨_, rfl⟩
 rw [hn] at hlen ⊢
 have HN := hide hn
 clear hx hL hn hB
 go_enter Tryz.func16, Tryz.ntmps16
 go_wp2_with fail
 go_loopw [3, 9] (fun u v wr => ∃ (j m : Nat), u = .int .i64 (m : Int) ∧ v = .int .i64 (j : Int) ∧ j ≤ n ∧ m ≤ 70000 ∧ Hid (m = dpEs (xs.take j) ∧ Below w.heap.size w wr)) (fun _ v _ => n - (intOf v).toNat)
 case atStart => exact ⟨0, 0, rfl, rfl, Nat.zero_le _, by omega, hide ⟨by simp [dpEs], Below.refl _ _⟩⟩
 obtain ⟨j, m, rfl, rfl, hj, hm7, HI⟩ := hrel
 by_cases hlt : j < n
 ·
  obtain ⟨x, hxj⟩ : ∃ x, xs[j]? = some x := ⟨xs[j]'(by rw [Qa HN]; exact hlt), List.getElem?_eq_getElem _⟩
  obtain ⟨gb, cap, cs, e1, hgb, hS, _, hcs, hc⟩ := ((Qa HL).later Qae (Qa HI).2).elem hxj
  obtain ⟨_, rfl, ⟨ka, kc, rfl⟩, hkl⟩ := ExS.cells hcs
  simp only [Value.slice.injEq] at e1
  obtain ⟨rfl, -, -⟩ := e1
  have x0 : wr.cell? ⟨gb, j * 5, none⟩ = some (.int .i64 x.kind) := hc 0 _ rfl
  have x1 : wr.cell? ⟨gb, j * 5 + 1, none⟩ = some (.int .i64 x.num) := hc 1 _ rfl
  have x2 : wr.cell? ⟨gb, j * 5 + 2, none⟩ = some (str x.txt) := hc 2 _ rfl
  have x3 : wr.cell? ⟨gb, j * 5 + 3, none⟩ = some (.slice ka x.kids.length kc) := hc 3 _ rfl
  have x4 : wr.cell? ⟨gb, j * 5 + 4, none⟩ = some (.int .i64 x.at_) := hc 4 _ rfl
  have htk : xs.take (j + 1) = xs.take j ++ [x] := by rw [List.take_add_one, hxj]; rfl
  have hdx : dpE x ≤ 70000 := Nat.le_trans (Qkx (List.mem_of_getElem? hxj)) (Qa HBd)
  have hdk : dpEs x.kids ≤ dpE x ∧ dpE x = dpEs x.kids + (if x.kind = 5 ∨ x.kind = 6 then 1 else 0) := by
   cases x with
   | mk k n s ks a => exact ⟨by rw [dpE]; simp only [Ex.kids]; omega, by rw [dpE]; rfl⟩
  obtain ⟨xb, hxb⟩ : ∃ xb, wr.heap.size = xb := ⟨_, rfl⟩
  obtain ⟨w2, hw2⟩ : ∃ w2, w2 = wr.alloc (.cells #[.int .i64 x.kind, .int .i64 x.num, str x.txt, .slice ka x.kids.length kc, .int .i64 x.at_] 67) := ⟨_, rfl⟩
  have b2 : Below wr.heap.size wr w2 := bnw hw2
  have n2 : w2.heap[xb]? = some (.cells #[.int .i64 x.kind, .int .i64 x.num, str x.txt, .slice ka x.kids.length kc, .int .i64 x.at_] 67 (0, 0)) := by rw [hw2, ← hxb]; exact heap_alloc_new wr _
  have hcl := Qa HX x (List.mem_of_getElem? hxj) (by omega) S w2 ka kc (hkl.later Qae b2)
  obtain ⟨y0, y1, y2, y3, y4⟩ := cl5p n2
  have bw2 : Below w.heap.size w w2 := (Qa HI).2.trans (b2.mono (Qa HI).2.size)
  obtain ⟨k, hk⟩ : ∃ k, x.kind = k := ⟨_, rfl⟩
  obtain ⟨q, hq⟩ : ∃ q, dpEs x.kids = q := ⟨_, rfl⟩
  rw [hk] at y0 x0 hw2 n2
  rw [hq] at hcl
  have HW2 := hide (Ya hw2 hxb)
  have HK := hide (Ya bw2 (Ya n2 (Ya htk (Ya (Ya hdk.1 (Ya hdk.2 hdx)) (Ya hk hq)))))
  have hq7 : q ≤ 70000 := by omega
  clear hgb hS hc hcs hkl hxj htk hdx hdk hxb hw2 b2 n2 bw2 hk hq
  go_upto_region 5 with fail
  rw [← (Qa HW2).1, (Qa HW2).2]
  go_wp2_with fail
  refine hcl.mono ?_
  clear hcl y0 y1 y2 y3 y4
  rintro en w3 ⟨rfl, b3⟩
  obtain ⟨bw2, n2, htk, hdk, hk, hq⟩ := Qa HK
  obtain ⟨y0, y1, y2, y3, y4⟩ := cl5p ((b3.block _ (Qag n2)).trans n2)
  have H3 := hide (bw2.trans (b3.mono bw2.size))
  clear b3 bw2 n2 htk hdk hk hq
  by_cases h5 : k = 5
  ·
   subst h5
   go_wp2_with fail
   go_roundw
   case rel =>
    obtain ⟨_, _, htk, hdk, hk, hq⟩ := Qa HK
    have hmm := (Qa HI).1
    have hq1 : q + (if (5 : Int) = 5 ∨ (5 : Int) = 6 then 1 else 0) ≤ 70000 := by have h1 := hdk.2.1; have h2 := hdk.2.2; rw [hq, hk] at h1; omega
    rw [if_pos (.inl rfl)] at hq1
    refine ⟨j + 1, max m (q + 1), ?_, by go_num, by omega, by omega, hide ⟨?_, Qa H3⟩⟩
    · congr 1; omega
    · rw [htk, Qfa, ← hmm, hdk.2.1, hq, hk, if_pos (.inl rfl)]
   case measure => simp [intOf]; omega
  have g5 : (k == 5) = false := by simpa using h5
  by_cases h6 : k = 6
  ·
   subst h6
   go_wp2_with fail
   go_roundw
   case rel =>
    obtain ⟨_, _, htk, hdk, hk, hq⟩ := Qa HK
    have hmm := (Qa HI).1
    have hq1 : q + (if (6 : Int) = 5 ∨ (6 : Int) = 6 then 1 else 0) ≤ 70000 := by have h1 := hdk.2.1; have h2 := hdk.2.2; rw [hq, hk] at h1; omega
    rw [if_pos (.inr rfl)] at hq1
    refine ⟨j + 1, max m (q + 1), ?_, by go_num, by omega, by omega, hide ⟨?_, Qa H3⟩⟩
    · congr 1; omega
    · rw [htk, Qfa, ← hmm, hdk.2.1, hq, hk, if_pos (.inr rfl)]
   case measure => simp [intOf]; omega
  have g6 : (k == 6) = false := by simpa using h6
  have H56 := hide (show ¬ (k = 5 ∨ k = 6) by omega)
  clear h5 h6
  go_wp2_with fail
  go_roundw
  case rel =>
   obtain ⟨_, _, htk, hdk, hk, hq⟩ := Qa HK
   have hmm := (Qa HI).1
   have hq1 : q + (if k = 5 ∨ k = 6 then 1 else 0) ≤ 70000 := by have h1 := hdk.2.1; have h2 := hdk.2.2; rw [hq, hk] at h1; omega
   rw [if_neg (Qa H56)] at hq1
   refine ⟨j + 1, max m q, ?_, by go_num, by omega, by omega, hide ⟨?_, Qa H3⟩⟩
   · congr 1; omega
   · rw [htk, Qfa, ← hmm, hdk.2.1, hq, hk, if_neg (Qa H56), Nat.add_zero]
  case measure => simp [intOf]; omega
 have ej : j = n := by omega
 have HE := hide (show xs.take j = xs by rw [ej, ← Qa HN]; exact List.take_length)
 have HB2 := hide (Qa HI).2
 obtain ⟨h1, _⟩ := Qa HI
 rw [Qa HE] at h1
 clear ej HI
 subst h1
 go_wp2_with fail
 go_ret
 exact ⟨rfl, Qa HB2⟩
theorem kd_of {x : Ex} (h : WfE x) : Kd x.kids := by
 induction h with
 | var s a h => exact Qcy [] (fun x hx => by cases hx)
 | num n a h0 h1 => exact Qcy [] (fun x hx => by cases hx)
 | text s a => exact Qcy [] (fun x hx => by cases hx)
 | any a => exact Qcy [] (fun x hx => by cases hx)
 | op s x y a hs _ _ ihx ihy => exact Qcy [x, y] (fun z hz => by
   simp only [List.mem_cons, List.not_mem_nil, or_false] at hz
   rcases hz with rfl | rfl
   · exact ihx
   · exact ihy)
 | con s ks a hs hl hk ih => exact Qcy ks ih
theorem Qr {xs : List Ex} (h : ∀ x ∈ xs, WfE x) : Kd xs := Qcy xs (fun x hx => kd_of (h x hx))
end
section
open Go.RowKit
inductive MT where
 | nil
 | take (k : Nat) (r : MT)
 | one (k : Nat) (r : MT)
 | two (k n : Nat) (a b : MT)
 | three (k n m : Nat) (a b c : MT)
def MT.len : MT → Nat
 | .nil => 0
 | .take _ r => r.len + 1
 | .one _ r => r.len + 1
 | .two _ _ a _ => a.len + 1
 | .three _ _ _ a _ _ => a.len + 1
section
variable {P : Program} {ops : Array Oper} {md : Region.Mode} {Q : Exit → Act → World → Prop} {C : World → Prop}
def MT.ok (md : Region.Mode) (ops : Array Oper) : MT → Array Bool → Bool
 | .nil, listed => (Region.ready md ops listed).isEmpty
 | .take k r, listed => (Region.ready md ops listed).contains k && Region.free md ops listed k && r.ok md ops (listed.setIfInBounds k true)
 | .one k r, listed => decide (Region.ready md ops listed = [k]) && r.ok md ops (listed.setIfInBounds k true)
 | .two k n a b, listed => decide (Region.ready md ops listed = [k, n]) && decide (b.len = a.len) && a.ok md ops (listed.setIfInBounds k true) && b.ok md ops (listed.setIfInBounds n true)
 | .three k n m a b c, listed => decide (Region.ready md ops listed = [k, n, m]) && decide (b.len = a.len) && decide (c.len = a.len) && a.ok md ops (listed.setIfInBounds k true) && b.ok md ops (listed.setIfInBounds n true) && c.ok md ops (listed.setIfInBounds m true)
def wpTr (P : Program) (ops : Array Oper) (C : World → Prop) (Q : Exit → Act → World → Prop) : MT → Act → World → Prop
 | .nil, a, w => C w ∧ Q .normal a w
 | .take k r, a, w => ∃ o v, ops[k]? = some o ∧ (∀ w, C w → YieldsAt P ops w o v a) ∧ wpTr P ops C Q r (a.put o.dst v) w
 | .one k r, a, w => C w ∧ wpOp P ops Q k (fun a' w' => wpTr P ops C Q r a' w') a w
 | .two k n x y, a, w => C w ∧ wpOp P ops Q k (fun a' w' => wpTr P ops C Q x a' w') a w ∧ wpOp P ops Q n (fun a' w' => wpTr P ops C Q y a' w') a w
 | .three k n m x y z, a, w => C w ∧ wpOp P ops Q k (fun a' w' => wpTr P ops C Q x a' w') a w ∧ wpOp P ops Q n (fun a' w' => wpTr P ops C Q y a' w') a w ∧ wpOp P ops Q m (fun a' w' => wpTr P ops C Q z a' w') a w
theorem Qcv (hsel : Region.noSelect ops = true) (hL : ¬ LetsOut Q) (hQ : ∀ c (a : Act) d v w, Q (.panic c) (a.put d v) w → Q (.panic c) a w) : ∀ (l : MT) (listed : Array Bool) (a : Act) (w : World), l.ok md ops listed = true → wpTr P ops C Q l a w → wpAnyC P md ops C Q l.len listed a w
 | .nil, listed, a, w, hB, h => ⟨h.1, by simpa [MT.ok] using hB, h.2⟩
 | .take k r, listed, a, w, hB, h => by
  simp only [MT.ok, Bool.and_eq_true] at hB
  obtain ⟨⟨hr, hf⟩, hB'⟩ := hB
  obtain ⟨o, v, ho, hy, h'⟩ := h
  exact Qhj ho (Region.noSelect_spec hsel) hL hQ r.len listed a w (Region.free_spec ho hf) (by simpa using hr) hy (Qcv hsel hL hQ r _ _ _ hB' h')
 | .one k r, listed, a, w, hB, h => by
  simp only [MT.ok, Bool.and_eq_true, decide_eq_true_eq] at hB
  refine ⟨h.1, fun e => (by rw [hB.1] at e; cases e), fun i hi => ?_⟩
  rw [hB.1] at hi
  have e : i = k := by simpa using hi
  subst e
  exact wpOp_mono (fun a' w' h' => Qcv hsel hL hQ r _ a' w' hB.2 h') h.2
 | .two k n x y, listed, a, w, hB, h => by
  simp only [MT.ok, Bool.and_eq_true, decide_eq_true_eq] at hB
  obtain ⟨⟨⟨hr, hl⟩, h1⟩, h2⟩ := hB
  refine ⟨h.1, fun e => (by rw [hr] at e; cases e), fun i hi => ?_⟩
  rw [hr] at hi
  simp only [List.mem_cons, List.not_mem_nil, or_false] at hi
  rcases hi with rfl | rfl
  · exact wpOp_mono (fun a' w' h' => Qcv hsel hL hQ x _ a' w' h1 h') h.2.1
  · exact wpOp_mono (fun a' w' h' => by have := Qcv hsel hL hQ y _ a' w' h2 h'; rw [hl] at this; exact this) h.2.2
 | .three k n m x y z, listed, a, w, hB, h => by
  simp only [MT.ok, Bool.and_eq_true, decide_eq_true_eq] at hB
  obtain ⟨⟨⟨⟨⟨hr, hl⟩, hl2⟩, h1⟩, h2⟩, h3⟩ := hB
  refine ⟨h.1, fun e => (by rw [hr] at e; cases e), fun i hi => ?_⟩
  rw [hr] at hi
  simp only [List.mem_cons, List.not_mem_nil, or_false] at hi
  rcases hi with rfl | rfl | rfl
  · exact wpOp_mono (fun a' w' h' => Qcv hsel hL hQ x _ a' w' h1 h') h.2.1
  · exact wpOp_mono (fun a' w' h' => by have := Qcv hsel hL hQ y _ a' w' h2 h'; rw [hl] at this; exact this) h.2.2.1
  · exact wpOp_mono (fun a' w' h' => by have := Qcv hsel hL hQ z _ a' w' h3 h'; rw [hl2] at this; exact this) h.2.2.2
end
section
variable {P : Program} {ops : Array Oper} {Q : Exit → Act → World → Prop} {C : World → Prop} {r : MT} {a : Act} {w : World} {k : Nat} {o : Oper}
theorem Qel {v : Value} (ho : ops[k]? = some o) (hw : Region.wanted o (yielded ops a.tmps) = true) (hy : ∀ w', C w' → (execOp a.eval o).run P w' = .ok (.value v) w')
  (h : wpTr P ops C Q r (a.put o.dst v) w) : wpTr P ops C Q (.take k r) a w := ⟨o, v, ho, fun w' hc => .inl ⟨hw, .inl (hy w' hc)⟩, h⟩
abbrev StepTr (P : Program) (ops : Array Oper) (C : World → Prop) (Q : Exit → Act → World → Prop) (r : MT) (o : Oper) (a : Act) (w : World) : Prop := ∀ K' : Act → World → Prop, (∀ a w, wpTr P ops C Q r a w → K' a w) → if Region.wanted o (yielded ops a.tmps) = true then Oper.wp P o a w K' Q else K' (a.put o.dst undef) w
theorem Qdy (ho : ops[k]? = some o) (hC : C w) (h : StepTr P ops C Q r o a w) : wpTr P ops C Q (.one k r) a w := ⟨hC, wpOp_step ho h⟩
theorem Jbx {n : Nat} {o2 : Oper} {y : MT} (ho : ops[k]? = some o) (ho2 : ops[n]? = some o2) (hC : C w) (h : StepTr P ops C Q r o a w) (h2 : StepTr P ops C Q y o2 a w) : wpTr P ops C Q (.two k n r y) a w := ⟨hC, wpOp_step ho h, wpOp_step ho2 h2⟩
theorem Qsj (hC : C w) (h : Q .normal a w) : wpTr P ops C Q .nil a w := ⟨hC, h⟩
theorem Qyc {id : Nat} {tr : MT} (C : World → Prop) (hm : P.follows .mixedOrders = true) (hsel : Region.noSelect ops = true) (hlen : tr.len = ops.size) (hB : tr.ok .any ops (Array.replicate ops.size false) = true)
  (h : ∀ PP : Act → World → Prop, (∀ a' w', Q .normal a' w' → PP a' w') → wpTr P ops C (onlyN PP) tr a w.drew) : (Code.region id ops true).wp P Q a w := by
 have hL : ¬ LetsOut (onlyN (Q .normal)) := by rintro ⟨_, _, h⟩; exact h
 have h1 := Qha _ _ _ _ (Qcv (md := .any) hsel hL (fun _ _ _ _ _ h => h) tr _ a _ hB (h (Q .normal) (fun _ _ h => h)))
 rw [hlen] at h1
 refine wp_mono (Q := onlyN (Q .normal)) (wp_region_any hm h1) ?_
 intro e a w h
 cases e
 case normal => exact h
 all_goals exact h.elim
end
end
section
open Go.RowKit Go.Maps
theorem Qmh : ∀ (xs : List Lt) (x : Lt), dpLs (xs ++ [x]) = max (dpLs xs) (dpLt x)
 | [], x => by simp [dpLs]
 | y :: xs, x => by rw [List.cons_append, dpLs, Qmh xs x, dpLs]; omega
theorem Qjk : ∀ (xs : List Cp) (x : Cp), (dpCs (xs ++ [x])).1 = max (dpCs xs).1 ((dpP x.2.2.1).1 + 1)
 | [], (n, bs, p, a) => by simp [dpCs]
 | (n, bs, p, a) :: xs, x => by rw [List.cons_append, dpCs, dpCs]; simp only; rw [Qjk xs x]; omega
theorem max3 (k q1 q2 : Nat) : (if (if k < q1 then (q1 : Int) else (k : Int)) < (q2 : Int) then (q2 : Int) else if k < q1 then (q1 : Int) else (k : Int)) = max (max (k : Int) (q1 : Int)) (q2 : Int) := by
 by_cases h1 : k < q1
 · rw [if_pos h1]; split <;> omega
 · rw [if_neg h1]; split <;> omega
theorem ls_two {S : Nat → Prop} {U : World} {gb : Nat} {x y : Ex} {k0 k1 k2 k3 k4 r0 r1 r2 r3 r4 : Value} (hb : U.heap[gb]? = some (.cells #[k0, k1, k2, k3, k4, r0, r1, r2, r3, r4] 67 (0, 0))) (hx : ExS S U [k0, k1, k2, k3, k4] x) (hy : ExS S U [r0, r1, r2, r3, r4] y) : LsAt PE 5 (fun _ => True) U (.slice (some ⟨gb, 0, none⟩) [x, y].length 2) [x, y] := by
 refine ⟨_, 2, [[k0, k1, k2, k3, k4], [r0, r1, r2, r3, r4]], rfl, Nat.le_refl _, by unfold maxLen; decide, ⟨rfl, fun j z cs h1 h2 => ?_⟩, fun _ => ⟨gb, rfl, trivial, Qag hb, fun j c hj => ?_⟩⟩
 ·
  match j, h1, h2 with
  | 0, h1, h2 => cases h1; cases h2; exact ⟨rfl, Qae.mono _ _ _ _ _ hx (fun _ _ _ => trivial)⟩
  | 1, h1, h2 => cases h1; cases h2; exact ⟨rfl, Qae.mono _ _ _ _ _ hy (fun _ _ _ => trivial)⟩
  | j + 2, h1, h2 => simp at h1
 rw [Qab hb]
 simpa using hj
theorem kd_lit {l : Lt} (h : WfL l) : Kd l.atom.args ∧ Kd [l.l, l.r] := by
 cases h with
 | atom a p h => exact ⟨Qr h.2.2, Qcy _ (fun x hx => by
   simp only [List.mem_cons, List.not_mem_nil, or_false] at hx
   rcases hx with rfl | rfl <;> exact Qcy [] (fun x hx => by cases hx))⟩
 | not a p h => exact ⟨Qr h.2.2, Qcy _ (fun x hx => by
   simp only [List.mem_cons, List.not_mem_nil, or_false] at hx
   rcases hx with rfl | rfl <;> exact Qcy [] (fun x hx => by cases hx))⟩
 | cmp o x y p ho hx hy => exact ⟨Qcy [] (fun x hx => by cases hx), Qr (fun z hz => by
   simp only [List.mem_cons, List.not_mem_nil, or_false] at hz
   rcases hz with rfl | rfl
   · exact hx
   · exact hy)⟩
abbrev PPg2 : PS Pg := fun S w cs x => PgS S w cs x
def Kp2 (p : Pg) : Prop := (dpP p).1 ≤ 70000 → (dpP p).2 ≤ 70000 → ∀ (S : Nat → Prop) (w : World) (a0 a1 a2 a3 a4 : Option Addr) (n0 n1 n2 n3 n4 c0 c1 c2 c3 c4 : Nat), PgS S w [.slice a0 n0 c0, .slice a1 n1 c1, .slice a2 n2 c2, .slice a3 n3 c3, .slice a4 n4 c4] p →
 Calls Tryz.prog 8 #[.agg #[.slice a0 n0 c0, .slice a1 n1 c1, .slice a2 n2 c2, .slice a3 n3 c3, .slice a4 n4 c4]] w fun en w' => en = .returned (.tuple #[.int .i64 ((dpP p).1 : Int), .int .i64 ((dpP p).2 : Int)]) ∧ Below w.heap.size w w'
attribute [local go_sem ↓] Qed Qdf Qfc Qei
theorem kp_any {ts : List Typ} {ds : List Dcl} {cs : List Cp} {is : List Ini} {ls : List Cls} (hL : ∀ l ∈ ls, WfC l) (hP : ∀ x ∈ cs, Kp2 x.2.2.1) : Kp2 (.mk ts ds cs is ls) := by
 intro hd1 hd2 S w a0 a1 a2 a3 a4 n0 n1 n2 n3 n4 c0 c1 c2 c3 c4 hPg
 obtain ⟨vt, vd, vc, vi, vl, ev, qt, qd, qc, qi, ql⟩ := hPg.cells
 simp only [List.cons.injEq, and_true] at ev
 obtain ⟨rfl, rfl, rfl, rfl, rfl⟩ := ev
 simp only [Pg.comps, Pg.clauses] at qc ql
 have hn2 : n2 = cs.length := by obtain ⟨_, _, e⟩ := qc.sl; cases e; rfl
 have hn4 : n4 = ls.length := by obtain ⟨_, _, e⟩ := ql.sl; cases e; rfl
 have hl2 := qc.len
 have hl4 := ql.len
 rw [← hn2] at hl2
 rw [← hn4] at hl4
 rw [dpP] at hd1 hd2
 simp only at hd1 hd2
 obtain ⟨w1, hw1⟩ : ∃ w1, w1 = w.alloc (.cells #[.slice a0 n0 c0, .slice a1 n1 c1, .slice a2 n2 c2, .slice a3 n3 c3, .slice a4 n4 c4] 28) := ⟨_, rfl⟩
 have b1 : Below w.heap.size w w1 := bnw hw1
 have m1 : w1.heap[w.heap.size]? = some (.cells #[.slice a0 n0 c0, .slice a1 n1 c1, .slice a2 n2 c2, .slice a3 n3 c3, .slice a4 n4 c4] 28 (0, 0)) := nnw hw1
 obtain ⟨x0, x1, x2, x3, x4⟩ := cl5p m1
 have HQ := hide (Ya qc (Ya ql (Ya hn2 hn4)))
 have HD := hide (Ya hd1 hd2)
 have HLP := hide (Ya hL hP)
 have HW := hide hw1
 have HM := hide (Ya b1 m1)
 clear hPg qt qd qc qi ql hn2 hn4 hd1 hd2 hL hP hw1 b1 m1
 go_enter Tryz.func8, Tryz.ntmps8
 go_upto_region 1 with fail
 rw [← Qa HW]
 go_wp2_with fail
 go_loopw [5, 17] (fun u v wr => ∃ (j m : Nat), u = .int .i64 (m : Int) ∧ v = .int .i64 (j : Int) ∧ j ≤ n4 ∧ m ≤ 70000 ∧ Hid (m = dpCls (ls.take j) ∧ Below w1.heap.size w1 wr)) (fun _ v _ => n4 - (intOf v).toNat)
 case atStart => exact ⟨0, 0, rfl, rfl, Nat.zero_le _, by omega, hide ⟨by simp [dpCls], Below.refl _ _⟩⟩
 obtain ⟨j, m, rfl, rfl, hj, hm7, HI⟩ := hrel
 by_cases hlt : j < n4
 ·
  obtain ⟨qc, ql, hn2, hn4⟩ := Qa HQ
  obtain ⟨b1, m1⟩ := Qa HM
  have bwr := b1.trans ((Qa HI).2.mono b1.size)
  obtain ⟨x, hxj⟩ : ∃ x, ls[j]? = some x := ⟨ls[j]'(by omega), List.getElem?_eq_getElem _⟩
  obtain ⟨gb, cap, csx, e1, hgb, hS, _, hcs, hc⟩ := (ql.later Qbg bwr).elem hxj
  obtain ⟨aa, an, ac, ba, bn, bc, rfl, hA, hB⟩ := hcs
  obtain ⟨_, _, e⟩ := hA.sl
  cases e
  obtain ⟨_, _, e⟩ := hB.sl
  cases e
  simp only [Value.slice.injEq] at e1
  obtain ⟨rfl, -, -⟩ := e1
  have y0 : wr.cell? ⟨gb, j * 5, none⟩ = some (str x.head.rel) := hc 0 _ rfl
  have y1 : wr.cell? ⟨gb, j * 5 + 1, none⟩ = some (.slice aa x.head.args.length ac) := hc 1 _ rfl
  have y2 : wr.cell? ⟨gb, j * 5 + 2, none⟩ = some (.int .i64 x.head.at_) := hc 2 _ rfl
  have y3 : wr.cell? ⟨gb, j * 5 + 3, none⟩ = some (.slice ba x.body.length bc) := hc 3 _ rfl
  have y4 : wr.cell? ⟨gb, j * 5 + 4, none⟩ = some (.int .i64 x.at_) := hc 4 _ rfl
  have htk : ls.take (j + 1) = ls.take j ++ [x] := by rw [List.take_add_one, hxj]; rfl
  have hwx := (Qa HLP).1 x (List.mem_of_getElem? hxj)
  have hdx : dpCl x ≤ 70000 := by have := Qkw (List.mem_of_getElem? hxj); have := (Qa HD).2; omega
  obtain ⟨xb, hxb⟩ : ∃ xb, wr.heap.size = xb := ⟨_, rfl⟩
  obtain ⟨w2, hw2⟩ : ∃ w2, w2 = wr.alloc (.cells #[str x.head.rel, .slice aa x.head.args.length ac, .int .i64 x.head.at_, .slice ba x.body.length bc, .int .i64 x.at_] 64) := ⟨_, rfl⟩
  have b2 : Below wr.heap.size wr w2 := bnw hw2
  have k2 : w2.heap[xb]? = some (.cells #[str x.head.rel, .slice aa x.head.args.length ac, .int .i64 x.head.at_, .slice ba x.body.length bc, .int .i64 x.at_] 64 (0, 0)) := by rw [hw2, ← hxb]; exact heap_alloc_new wr _
  have hdh : dpEs x.head.args ≤ 70000 := by unfold dpCl at hdx; omega
  have hcl := Qr hwx.1.2.2 hdh S w2 aa ac (hA.later Qae b2)
  obtain ⟨z0, z1, z2, z3, z4⟩ := cl5p k2
  have hbl := hB.len
  obtain ⟨qn, hqn⟩ : ∃ qn, x.body.length = qn := ⟨_, rfl⟩
  obtain ⟨q, hq⟩ : ∃ q, dpEs x.head.args = q := ⟨_, rfl⟩
  rw [hq] at hcl hdh
  rw [hqn] at z3 y3 hbl hw2 k2
  have HW2 := hide (Ya hw2 hxb)
  have HK := hide (Ya ((Qa HI).2.trans (b2.mono (Qa HI).2.size)) (Ya k2 (Ya htk (Ya hwx (Ya hdx (Ya hq (Ya hqn (hB.later Qbt b2))))))))
  clear hgb hS hc hxj htk hwx hdx hxb hw2 b2 k2 hq hqn hA hB qc ql hn2 hn4 b1 m1 bwr
  go_upto_region 5 with fail
  rw [← (Qa HW2).1, (Qa HW2).2]
  go_wp2_with fail
  refine hcl.mono ?_
  clear hcl z0 z1 z2 z3 z4 y0 y1 y2 y3 y4
  rintro en w3 ⟨rfl, b3⟩
  obtain ⟨bw2, k2, htk, hwx, hdx, hq, hqn, hB2⟩ := Qa HK
  have k3 := (b3.block _ (Qag k2)).trans k2
  obtain ⟨z0, z1, z2, z3, z4⟩ := cl5p k3
  have H3 := hide (Ya (bw2.trans (b3.mono bw2.size)) (Ya k3 (hB2.later Qbt b3)))
  clear b3 bw2 k2 k3 htk hwx hdx hq hqn hB2
  go_wp2_with fail
  go_loopw [5, 30] (fun u v wq => ∃ (i k : Nat), u = .int .i64 (k : Int) ∧ v = .int .i64 (i : Int) ∧ i ≤ qn ∧ k ≤ 70000 ∧ Hid (k = max (max m q) (dpLs (x.body.take i)) ∧ Below w3.heap.size w3 wq)) (fun _ v _ => qn - (intOf v).toNat)
  case atStart => exact ⟨0, max m q, by congr 1; omega, rfl, Nat.zero_le _, by omega, hide ⟨by simp [dpLs], Below.refl _ _⟩⟩
  obtain ⟨i, k, rfl, rfl, hi, hk7, HJ⟩ := hrel
  by_cases hlt2 : i < qn
  ·
   obtain ⟨b3, k3, hB3⟩ := Qa H3
   obtain ⟨bw2, k2, htk, hwx, hdx, hq, hqn, hB2⟩ := Qa HK
   have bq := (Qa HJ).2
   obtain ⟨y, hyj⟩ : ∃ y, x.body[i]? = some y := ⟨x.body[i]'(by omega), List.getElem?_eq_getElem _⟩
   obtain ⟨hb, cap2, csy, e2, hhb, hS2, hl16, hcs, hc⟩ := (hB3.later Qbt bq).elem hyj
   obtain ⟨pa, pn, pc, xa, xn, xc, ya, yn, yc, rfl, hA, hl, hr⟩ := hcs
   obtain ⟨_, _, e⟩ := hA.sl
   cases e
   simp only [Value.slice.injEq] at e2
   obtain ⟨rfl, -, -⟩ := e2
   have htk2 : x.body.take (i + 1) = x.body.take i ++ [y] := by rw [List.take_add_one, hyj]; rfl
   have hwy := hwx.2.2 y (List.mem_of_getElem? hyj)
   have hdy : dpLt y ≤ 70000 := by have h1 := Qop (List.mem_of_getElem? hyj); unfold dpCl at hdx; omega
   obtain ⟨pn, hpn⟩ : ∃ pn, y.atom.args.length = pn := ⟨_, rfl⟩
   have hone : ∀ c ∈ ([.int .i64 y.kind, str y.atom.rel, .slice pa y.atom.args.length pc, .int .i64 y.atom.at_, str y.op, .int .i64 y.l.kind, .int .i64 y.l.num, str y.l.txt, .slice xa xn xc, .int .i64 y.l.at_, .int .i64 y.r.kind, .int .i64 y.r.num, str y.r.txt, .slice ya yn yc, .int .i64 y.r.at_, .int .i64 y.at_] : List Value), c.oneCell' = true := by simp [Value.oneCell', str]
   have hkd := kd_lit hwy
   have hd1 : dpEs y.atom.args ≤ 70000 := by unfold dpLt at hdy; omega
   have hd2 : dpEs [y.l, y.r] ≤ 70000 := by unfold dpLt at hdy; omega
   have L1 := Qgo (w := wr) (b := hb) (o := i * 16) hc
   have N1 := Qkf wr hone
   rw [hpn] at L1 N1
   obtain ⟨w4, hw4⟩ : ∃ w4, w4 = wr.alloc (.cells #[.int .i64 y.kind, str y.atom.rel, .slice pa pn pc, .int .i64 y.atom.at_, str y.op, .int .i64 y.l.kind, .int .i64 y.l.num, str y.l.txt, .slice xa xn xc, .int .i64 y.l.at_, .int .i64 y.r.kind, .int .i64 y.r.num, str y.r.txt, .slice ya yn yc, .int .i64 y.r.at_, .int .i64 y.at_] 69) := ⟨_, rfl⟩
   have b4 : Below wr.heap.size wr w4 := bnw hw4
   have k4 : w4.heap[wr.heap.size]? = some (.cells #[.int .i64 y.kind, str y.atom.rel, .slice pa pn pc, .int .i64 y.atom.at_, str y.op, .int .i64 y.l.kind, .int .i64 y.l.num, str y.l.txt, .slice xa xn xc, .int .i64 y.l.at_, .int .i64 y.r.kind, .int .i64 y.r.num, str y.r.txt, .slice ya yn yc, .int .i64 y.r.at_, .int .i64 y.at_] 69 (0, 0)) := nnw hw4
   rw [← hw4] at N1
   have hA4 := hA.later Qae b4
   have hl4' := Qae.same _ _ w4 _ _ hl b4.size (fun b _ hb => b4.block b hb)
   have hr4' := Qae.same _ _ w4 _ _ hr b4.size (fun b _ hb => b4.block b hb)
   rw [hpn] at hA4
   obtain ⟨yb, hyb⟩ : ∃ yb, wr.heap.size = yb := ⟨_, rfl⟩
   rw [hyb] at k4
   have HC := hide (show ∀ W', Below w4.heap.size w4 W' → W'.cell? ⟨yb, 2, none⟩ = some (.slice pa pn pc) ∧ W'.cell? ⟨yb, 5, none⟩ = some (.int .i64 y.l.kind) ∧ W'.cell? ⟨yb, 6, none⟩ = some (.int .i64 y.l.num) ∧ W'.cell? ⟨yb, 7, none⟩ = some (str y.l.txt) ∧ W'.cell? ⟨yb, 8, none⟩ = some (.slice xa xn xc) ∧ W'.cell? ⟨yb, 9, none⟩ = some (.int .i64 y.l.at_) ∧ W'.cell? ⟨yb, 10, none⟩ = some (.int .i64 y.r.kind) ∧ W'.cell? ⟨yb, 11, none⟩ = some (.int .i64 y.r.num) ∧ W'.cell? ⟨yb, 12, none⟩ = some (str y.r.txt) ∧ W'.cell? ⟨yb, 13, none⟩ = some (.slice ya yn yc) ∧ W'.cell? ⟨yb, 14, none⟩ = some (.int .i64 y.r.at_) from fun W' hW => by
    have k5 := (hW.block _ (Qag k4)).trans k4
    exact ⟨(Qab k5 2).trans rfl, (Qab k5 5).trans rfl, (Qab k5 6).trans rfl, (Qab k5 7).trans rfl, (Qab k5 8).trans rfl, (Qab k5 9).trans rfl, (Qab k5 10).trans rfl, (Qab k5 11).trans rfl, (Qab k5 12).trans rfl, (Qab k5 13).trans rfl, (Qab k5 14).trans rfl⟩)
   have HC1 := hide (show ∀ W', Below w4.heap.size w4 W' → Calls Tryz.prog 16 #[.slice pa pn pc] W' fun en w' => en = .returned (.int .i64 (dpEs y.atom.args : Int)) ∧ Below W'.heap.size W' w' from fun W' hW => by
    have := hkd.1 hd1 _ W' pa pc (by rw [hpn]; exact hA4.later Qae hW)
    rw [hpn] at this
    exact this)
   have HC2 := hide (show ∀ W' U, Below w4.heap.size w4 W' → Below (W'.heap.size + 1) (W'.alloc (.cells #[.int .i64 y.l.kind, .int .i64 y.l.num, str y.l.txt, .slice xa xn xc, .int .i64 y.l.at_, .int .i64 y.r.kind, .int .i64 y.r.num, str y.r.txt, .slice ya yn yc, .int .i64 y.r.at_] 67)) U → Calls Tryz.prog 16 #[.slice (some ⟨W'.heap.size, 0, none⟩) 2 2] U fun en w' => en = .returned (.int .i64 (dpEs [y.l, y.r] : Int)) ∧ Below U.heap.size U w' from fun W' U hW hU => by
    have hbU : U.heap[W'.heap.size]? = some (.cells #[.int .i64 y.l.kind, .int .i64 y.l.num, str y.l.txt, .slice xa xn xc, .int .i64 y.l.at_, .int .i64 y.r.kind, .int .i64 y.r.num, str y.r.txt, .slice ya yn yc, .int .i64 y.r.at_] 67 (0, 0)) := (hU.block _ (by omega)).trans (heap_alloc_new W' _)
    have bU : Below w4.heap.size w4 U := (hW.alloc hW.size _).trans (hU.mono (by have := hW.size; omega))
    exact hkd.2 hd2 _ U _ _ (ls_two hbU (Qae.same _ _ U _ _ hl4' bU.size (fun b _ hb => bU.block b hb)) (Qae.same _ _ U _ _ hr4' bU.size (fun b _ hb => bU.block b hb))))
   obtain ⟨q1, hq1⟩ : ∃ q1, dpEs y.atom.args = q1 := ⟨_, rfl⟩
   obtain ⟨q2, hq2⟩ : ∃ q2, dpEs [y.l, y.r] = q2 := ⟨_, rfl⟩
   rw [hq1] at HC1 hd1
   rw [hq2] at HC2 hd2
   have HEND := hide (show ∀ W', Below w4.heap.size w4 W' → ∃ (i1 k1 : Nat), Value.int .i64 (max (max (k : Int) (q1 : Int)) (q2 : Int)) = .int .i64 (k1 : Int) ∧ Value.int .i64 ((i : Int) + 1) = .int .i64 (i1 : Int) ∧ i1 ≤ qn ∧ k1 ≤ 70000 ∧ Hid (k1 = max (max m q) (dpLs (x.body.take i1)) ∧ Below w3.heap.size w3 W') from fun W' hW => by
    refine ⟨i + 1, max (max k q1) q2, by congr 1; omega, by congr 1, by omega, by omega, hide ⟨?_, bq.trans ((b4.trans (hW.mono b4.size)).mono bq.size)⟩⟩
    rw [htk2, Qmh, dpLt, hq1, hq2, (Qa HJ).1]
    omega)
   have HW4 := hide (Ya hw4 hyb)
   clear b3 k3 hB3 bw2 k2 htk hwx hdx hq hqn hB2 bq hyj hhb hS2 hl16 hc hA hl hr htk2 hwy hdy hpn hone hkd hw4 b4 k4 hA4 hl4' hr4' hyb hq1 hq2 z0 z1 z2 z3 z4
   go_upto_region 9 with fail
   rw [(Qa HW4).2]
   have B0 : Below w4.heap.size w4 w4.drew := Below.drew (Below.refl _ _)
   refine Qyc (tr := (.take 0 (.take 1 (.take 2 (.take 3 (.take 5 (.take 6 (.take 7 (.take 8 (.two 4 9 (.one 9 (.one 10 (.one 11 (.one 12 .nil)))) (.one 4 (.one 10 (.one 11 (.one 12 .nil)))))))))))))) (fun W' => W'.cell? ⟨yb, 2, none⟩ = some (.slice pa pn pc) ∧ W'.cell? ⟨yb, 5, none⟩ = some (.int .i64 y.l.kind) ∧ W'.cell? ⟨yb, 6, none⟩ = some (.int .i64 y.l.num) ∧ W'.cell? ⟨yb, 7, none⟩ = some (str y.l.txt) ∧ W'.cell? ⟨yb, 8, none⟩ = some (.slice xa xn xc) ∧ W'.cell? ⟨yb, 9, none⟩ = some (.int .i64 y.l.at_) ∧ W'.cell? ⟨yb, 10, none⟩ = some (.int .i64 y.r.kind) ∧ W'.cell? ⟨yb, 11, none⟩ = some (.int .i64 y.r.num) ∧ W'.cell? ⟨yb, 12, none⟩ = some (str y.r.txt) ∧ W'.cell? ⟨yb, 13, none⟩ = some (.slice ya yn yc) ∧ W'.cell? ⟨yb, 14, none⟩ = some (.int .i64 y.r.at_)) (by kernel_rfl) (by kernel_rfl) rfl (by kernel_rfl) (fun PP hPP => ?_)
   iterate 3 (refine Qel (v := ?_) rfl (by kernel_rfl) (fun W' hw => ?_) ?_; rotate_left; · (go_simp <;> rfl))
   refine Qel (v := ?_) rfl (by kernel_rfl) (fun W' hw => ?_) ?_
   rotate_left
   · (obtain ⟨c2x, c5x, c6x, c7x, c8x, c9x, c10x, c11x, c12x, c13x, c14x⟩ := hw; go_simp <;> rfl)
   refine Qel (v := ?_) rfl (by kernel_rfl) (fun W' hw => ?_) ?_
   rotate_left
   · (go_simp <;> rfl)
   refine Qel (v := ?_) rfl (by kernel_rfl) (fun W' hw => ?_) ?_
   rotate_left
   · (obtain ⟨c2x, c5x, c6x, c7x, c8x, c9x, c10x, c11x, c12x, c13x, c14x⟩ := hw; go_simp <;> rfl)
   refine Qel (v := ?_) rfl (by kernel_rfl) (fun W' hw => ?_) ?_
   rotate_left
   · (go_simp <;> rfl)
   refine Qel (v := ?_) rfl (by kernel_rfl) (fun W' hw => ?_) ?_
   rotate_left
   · (obtain ⟨c2x, c5x, c6x, c7x, c8x, c9x, c10x, c11x, c12x, c13x, c14x⟩ := hw; go_simp <;> rfl)
   refine Jbx rfl rfl (Qa HC _ B0) (fun K hK => ?_) (fun K hK => ?_)
   ·
    go_simp
    refine (Qa HC1 _ B0).mono ?_
    rintro en w5 ⟨rfl, b5⟩
    show K _ _
    refine hK _ _ ?_
    clear hK K
    have B5 : Below w4.heap.size w4 w5 := B0.trans (b5.mono B0.size)
    refine Qdy rfl (Qa HC _ B5) (fun K hK => ?_)
    go_simp
    refine hK _ _ ?_
    clear hK K
    have B6 : Below w4.heap.size w4 (w5.alloc (.cells #[.int .i64 y.l.kind, .int .i64 y.l.num, str y.l.txt, .slice xa xn xc, .int .i64 y.l.at_, .int .i64 y.r.kind, .int .i64 y.r.num, str y.r.txt, .slice ya yn yc, .int .i64 y.r.at_] 67)) := B5.alloc B5.size _
    refine Qdy rfl (Qa HC _ B6) (fun K hK => ?_)
    go_simp
    refine (Qa HC2 w5 _ B5 (Below.refl _ _)).mono ?_
    rintro en w7 ⟨rfl, b7⟩
    show K _ _
    refine hK _ _ ?_
    clear hK K
    have B7 : Below w4.heap.size w4 w7 := B6.trans (b7.mono B6.size)
    refine Qdy rfl (Qa HC _ B7) (fun K hK => ?_)
    go_simp
    refine hK _ _ ?_
    clear hK K
    refine Qdy rfl (Qa HC _ B7) (fun K hK => ?_)
    go_simp
    refine hK _ _ ?_
    clear hK K
    refine Qsj (Qa HC _ B7) (hPP _ _ ?_)
    clear hPP PP
    go_wp2_with fail
    go_roundw
    case rel =>
     obtain ⟨i1, k1, e1, e2, hr⟩ := Qa HEND _ B7
     exact ⟨i1, k1, by rw [← e1, max3], e2, hr⟩
    case measure => simp [intOf]; omega
   go_simp
   refine hK _ _ ?_
   clear hK K
   have B6 : Below w4.heap.size w4 (w4.drew.alloc (.cells #[.int .i64 y.l.kind, .int .i64 y.l.num, str y.l.txt, .slice xa xn xc, .int .i64 y.l.at_, .int .i64 y.r.kind, .int .i64 y.r.num, str y.r.txt, .slice ya yn yc, .int .i64 y.r.at_] 67)) := B0.alloc B0.size _
   refine Qdy rfl (Qa HC _ B6) (fun K hK => ?_)
   go_simp
   refine (Qa HC1 _ B6).mono ?_
   rintro en w5 ⟨rfl, b5⟩
   show K _ _
   refine hK _ _ ?_
   clear hK K
   have B5 : Below w4.heap.size w4 w5 := B6.trans (b5.mono B6.size)
   refine Qdy rfl (Qa HC _ B5) (fun K hK => ?_)
   go_simp
   refine (Qa HC2 w4.drew w5 B0 (by simpa using b5)).mono ?_
   rintro en w7 ⟨rfl, b7⟩
   show K _ _
   refine hK _ _ ?_
   clear hK K
   have B7 : Below w4.heap.size w4 w7 := B5.trans (b7.mono B5.size)
   refine Qdy rfl (Qa HC _ B7) (fun K hK => ?_)
   go_simp
   refine hK _ _ ?_
   clear hK K
   refine Qdy rfl (Qa HC _ B7) (fun K hK => ?_)
   go_simp
   refine hK _ _ ?_
   clear hK K
   refine Qsj (Qa HC _ B7) (hPP _ _ ?_)
   clear hPP PP
   go_wp2_with fail
   go_roundw
   case rel =>
    obtain ⟨i1, k1, e1, e2, hr⟩ := Qa HEND _ B7
    exact ⟨i1, k1, by rw [← e1, max3], e2, hr⟩
   case measure => simp [intOf]; omega
  have ei : i = qn := by omega
  obtain ⟨b3, k3, hB3⟩ := Qa H3
  obtain ⟨bw2, k2, htk, hwx, hdx, hq, hqn, hB2⟩ := Qa HK
  have HF := hide (show k = dpCls (ls.take (j + 1)) ∧ Below w1.heap.size w1 wr by
   refine ⟨?_, b3.trans ((Qa HJ).2.mono b3.size)⟩
   have h1 := (Qa HJ).1
   rw [ei, ← hqn, List.take_length] at h1
   rw [htk, Qgq, dpCl, hq, h1, (Qa HI).1]
   omega)
  clear b3 k3 hB3 bw2 k2 htk hwx hdx hq hqn hB2 ei
  go_wp2_with fail
  go_roundw
  case rel => exact ⟨j + 1, k, rfl, by go_num, by omega, hk7, HF⟩
  case measure => simp [intOf]; omega
 have ej : j = n4 := by omega
 obtain ⟨qc, ql, hn2, hn4⟩ := Qa HQ
 obtain ⟨b1, m1⟩ := Qa HM
 have h1 := (Qa HI).1
 rw [ej, hn4, List.take_length] at h1
 have bI := (Qa HI).2
 have m2 := (bI.block _ (Qag m1)).trans m1
 obtain ⟨x0, x1, x2, x3, x4⟩ := cl5p m2
 obtain ⟨wl, hwl⟩ : ∃ wl, wl = wr := ⟨_, rfl⟩
 have HF := hide (Ya h1 (Ya bI hwl))
 clear ej qc ql hn2 hn4 b1 m1 h1 bI m2 hwl
 go_wp2_with fail
 go_loopw [4, 5, 51] (fun s u v wz => ∃ (i a b : Nat), s = .int .i64 (a : Int) ∧ u = .int .i64 (b : Int) ∧ v = .int .i64 (i : Int) ∧ i ≤ n2 ∧ a ≤ 70000 ∧ b ≤ 70000 ∧ Hid (a = (dpCs (cs.take i)).1 ∧ b = max m (dpCs (cs.take i)).2 ∧ Below wl.heap.size wl wz)) (fun _ _ v _ => n2 - (intOf v).toNat)
 case atStart => exact ⟨0, 0, m, rfl, rfl, rfl, Nat.zero_le _, by omega, hm7, hide ⟨by simp [dpCs], by simp [dpCs], by rw [(Qa HF).2.2]; exact Below.refl _ _⟩⟩
 obtain ⟨i, a, b, rfl, rfl, rfl, hi, ha7, hb7, HJ⟩ := hrel
 by_cases hlt2 : i < n2
 ·
  obtain ⟨h1, bI, hwl⟩ := Qa HF
  obtain ⟨qc, ql, hn2, hn4⟩ := Qa HQ
  obtain ⟨b1, m1⟩ := Qa HM
  have bwl : Below w.heap.size w wl := by rw [hwl]; exact b1.trans (bI.mono b1.size)
  have bq := (Qa HJ).2.2
  have bwr := bwl.trans (bq.mono bwl.size)
  obtain ⟨x, hxj⟩ : ∃ x, cs[i]? = some x := ⟨cs[i]'(by omega), List.getElem?_eq_getElem _⟩
  obtain ⟨gb2, cap2, csx, e1, hgb, hS, hl8, hcs, hc⟩ := (qc.later Qbb bwr).elem hxj
  have hone := Qiq hcs
  obtain ⟨vb, bd, rfl, _, hB, hPx⟩ := hcs
  obtain ⟨va, vc, rfl⟩ := hB.sl
  obtain ⟨u0, u1, u2, u3, u4, rfl, p0, p1, p2, p3, p4⟩ := hPx.cells
  obtain ⟨d0, t0, rfl⟩ := p0.sl
  obtain ⟨d1, t1, rfl⟩ := p1.sl
  obtain ⟨d2, t2, rfl⟩ := p2.sl
  obtain ⟨d3, t3, rfl⟩ := p3.sl
  obtain ⟨d4, t4, rfl⟩ := p4.sl
  obtain ⟨vn, hvn⟩ : ∃ n, x.2.1.length = n := ⟨_, rfl⟩
  obtain ⟨s0, hs0⟩ : ∃ n, x.2.2.1.types.length = n := ⟨_, rfl⟩
  obtain ⟨s1, hs1⟩ : ∃ n, x.2.2.1.decls.length = n := ⟨_, rfl⟩
  obtain ⟨s2, hs2⟩ : ∃ n, x.2.2.1.comps.length = n := ⟨_, rfl⟩
  obtain ⟨s3, hs3⟩ : ∃ n, x.2.2.1.inits.length = n := ⟨_, rfl⟩
  obtain ⟨s4, hs4⟩ : ∃ n, x.2.2.1.clauses.length = n := ⟨_, rfl⟩
  rw [hvn, hs0, hs1, hs2, hs3, hs4] at hone hc
  rw [hs0, hs1, hs2, hs3, hs4] at hPx
  simp only [List.cons_append, List.nil_append] at hone hc
  simp only [Value.slice.injEq] at e1
  obtain ⟨rfl, -, -⟩ := e1
  have htk : cs.take (i + 1) = cs.take i ++ [x] := by rw [List.take_add_one, hxj]; rfl
  have hle := Qoo (List.mem_of_getElem? hxj)
  have hx1 : (dpP x.2.2.1).1 + 1 ≤ 70000 := by have := (Qa HD).1; omega
  have hx2 : (dpP x.2.2.1).2 ≤ 70000 := by have := (Qa HD).2; omega
  have hpx := (Qa HLP).2 x (List.mem_of_getElem? hxj) (by omega) hx2
  have L1 := Qgz (w := wr) (b := gb2) (o := i * 8) hc
  have N1 := Qje wr hone
  obtain ⟨w4, hw4⟩ : ∃ w4, w4 = wr.alloc (.cells #[str x.1, .slice va vn vc, .slice d0 s0 t0, .slice d1 s1 t1, .slice d2 s2 t2, .slice d3 s3 t3, .slice d4 s4 t4, .int .i64 x.2.2.2] 72) := ⟨_, rfl⟩
  have b4 : Below wr.heap.size wr w4 := bnw hw4
  have k4 : w4.heap[wr.heap.size]? = some (.cells #[str x.1, .slice va vn vc, .slice d0 s0 t0, .slice d1 s1 t1, .slice d2 s2 t2, .slice d3 s3 t3, .slice d4 s4 t4, .int .i64 x.2.2.2] 72 (0, 0)) := nnw hw4
  rw [← hw4] at N1
  have hcl := hpx _ w4 _ _ _ _ _ _ _ _ _ _ _ _ _ _ _ (Qao.same _ _ w4 _ _ hPx b4.size (fun b _ hb => b4.block b hb))
  obtain ⟨g2, g3, g4, g5, g6⟩ : w4.cell? ⟨wr.heap.size, 2, none⟩ = some (.slice d0 s0 t0) ∧ w4.cell? ⟨wr.heap.size, 3, none⟩ = some (.slice d1 s1 t1) ∧ w4.cell? ⟨wr.heap.size, 4, none⟩ = some (.slice d2 s2 t2) ∧ w4.cell? ⟨wr.heap.size, 5, none⟩ = some (.slice d3 s3 t3) ∧ w4.cell? ⟨wr.heap.size, 6, none⟩ = some (.slice d4 s4 t4) := ⟨(Qab k4 2).trans rfl, (Qab k4 3).trans rfl, (Qab k4 4).trans rfl, (Qab k4 5).trans rfl, (Qab k4 6).trans rfl⟩
  obtain ⟨e1, he1⟩ : ∃ e1, (dpP x.2.2.1).1 = e1 := ⟨_, rfl⟩
  obtain ⟨e2, he2⟩ : ∃ e2, (dpP x.2.2.1).2 = e2 := ⟨_, rfl⟩
  rw [he1, he2] at hcl
  rw [he1] at hx1
  rw [he2] at hx2
  have HEND := hide (show ∀ w5, Below w4.heap.size w4 w5 → max a (e1 + 1) = (dpCs (cs.take (i + 1))).1 ∧ max b e2 = max m (dpCs (cs.take (i + 1))).2 ∧ Below wl.heap.size wl w5 from fun w5 h5 => by
   refine ⟨?_, ?_, bq.trans ((b4.trans (h5.mono b4.size)).mono bq.size)⟩
   · rw [htk, Qjk, he1, (Qa HJ).1]
   · rw [htk, Qib, he2, (Qa HJ).2.1]; omega)
  clear h1 bI hwl qc ql hn2 hn4 b1 m1 bwl bq bwr hxj hgb hS hl8 hone hB hPx p0 p1 p2 p3 p4 hvn hs0 hs1 hs2 hs3 hs4 hc htk hle hpx hw4 b4 k4 he1 he2 x0 x1 x2 x3 x4
  go_wp2_with fail
  refine hcl.mono ?_
  clear hcl L1 N1 g2 g3 g4 g5 g6
  rintro en w5 ⟨rfl, b5⟩
  have HE5 := hide (Qa HEND w5 b5)
  clear b5
  go_wp2_with fail
  go_roundw
  case rel => exact ⟨i + 1, max a (e1 + 1), max b e2, by congr 1; omega, by congr 1; omega, by go_num, by omega, by omega, by omega, HE5⟩
  case measure => simp [intOf]; omega
 have ei : i = n2 := by omega
 obtain ⟨h1, bI, hwl⟩ := Qa HF
 obtain ⟨qc, ql, hn2, hn4⟩ := Qa HQ
 obtain ⟨b1, m1⟩ := Qa HM
 have HR := hide (show (dpP (.mk ts ds cs is ls)).1 = a ∧ (dpP (.mk ts ds cs is ls)).2 = b ∧ Below w.heap.size w wr by
  obtain ⟨j1, j2, j3⟩ := Qa HJ
  rw [ei, hn2, List.take_length] at j1 j2
  rw [dpP]
  rw [hwl] at j3
  exact ⟨j1.symm, by rw [j2, h1], (b1.trans (bI.mono b1.size)).trans (j3.mono (Nat.le_trans b1.size bI.size))⟩)
 clear ei h1 bI hwl qc ql hn2 hn4 b1 m1 x0 x1 x2 x3 x4
 go_wp2_with fail
 go_ret2
 rw [(Qa HR).1, (Qa HR).2.1]
 exact ⟨rfl, (Qa HR).2.2⟩
theorem kp_of {p : Pg} (h : WfP p) : Kp2 p := by
 induction h with
 | mk ts ds cs is ls hT hD hC hI hL hP ih => exact kp_any hL ih
end
section
open Go.RowKit Go.Maps
theorem Qnk {w : World} {xk xm xat : Int} {xt : Txt} {xa : Option Addr} {xn xc : Nat} {yk ym yat : Int} {yt : Txt} {ya : Option Addr} {yn yc : Nat} {s0 s1 s2 s3 s4 : Bool} (h0 : s0 = decide (xk = yk)) (h1 : s1 = decide (xm = ym)) (h2 : s2 = decide (xt = yt)) (h3 : ∀ w', Below w.heap.size w w' → Calls Tryz.prog 20 #[.int .i64 xat, .int .i64 yat, .bool false] w' fun en w2 => en = .returned (.bool s3) ∧ Below w'.heap.size w' w2) (h4 : ∀ w', Below w.heap.size w w' → Calls Tryz.prog 79 #[.slice xa xn xc, .slice ya yn yc, .bool false] w' fun en w2 => en = .returned (.bool s4) ∧ Below w'.heap.size w' w2) :
  Calls Tryz.prog 49 #[.agg #[.int .i64 xk, .int .i64 xm, str xt, .slice xa xn xc, .int .i64 xat], .agg #[.int .i64 yk, .int .i64 ym, str yt, .slice ya yn yc, .int .i64 yat], .bool false] w fun en w' => en = .returned (.bool (s0 && s1 && s2 && s3 && s4)) ∧ Below w.heap.size w w' := by
 have B0 : Hid (Below w.heap.size w ((w.alloc (.cells #[.int .i64 xk, .int .i64 xm, str xt, .slice xa xn xc, .int .i64 xat] 67)).alloc (.cells #[.int .i64 yk, .int .i64 ym, str yt, .slice ya yn yc, .int .i64 yat] 67)) ∧ ((w.alloc (.cells #[.int .i64 xk, .int .i64 xm, str xt, .slice xa xn xc, .int .i64 xat] 67)).alloc (.cells #[.int .i64 yk, .int .i64 ym, str yt, .slice ya yn yc, .int .i64 yat] 67)).heap[w.heap.size]? = some (.cells #[.int .i64 xk, .int .i64 xm, str xt, .slice xa xn xc, .int .i64 xat] 67 (0, 0)) ∧ ((w.alloc (.cells #[.int .i64 xk, .int .i64 xm, str xt, .slice xa xn xc, .int .i64 xat] 67)).alloc (.cells #[.int .i64 yk, .int .i64 ym, str yt, .slice ya yn yc, .int .i64 yat] 67)).heap[w.heap.size + 1]? = some (.cells #[.int .i64 yk, .int .i64 ym, str yt, .slice ya yn yc, .int .i64 yat] 67 (0, 0))) := by
  refine ⟨((Below.refl _ w).alloc (Nat.le_refl _) _).alloc (by simp) _, ?_, ?_⟩
  · rw [Below.heap_alloc _ _ _ (by simp)]; exact heap_alloc_new w _
  have := heap_alloc_new (w.alloc (.cells #[.int .i64 xk, .int .i64 xm, str xt, .slice xa xn xc, .int .i64 xat] 67)) (.cells #[.int .i64 yk, .int .i64 ym, str yt, .slice ya yn yc, .int .i64 yat] 67)
  rw [show (w.alloc (.cells #[.int .i64 xk, .int .i64 xm, str xt, .slice xa xn xc, .int .i64 xat] 67)).heap.size = w.heap.size + 1 by simp] at this
  exact this
 have H0 := hide h0
 have H1 := hide h1
 have H2 := hide h2
 have H3 := hide h3
 have H4 := hide h4
 clear h0 h1 h2 h3 h4
 cases s0
 ·
  have g0 : (xk == yk) = false := by simpa using Qa H0
  go_enter Tryz.func49, Tryz.ntmps49
  go_wp2_with fail
  go_ret
  exact ⟨rfl, (Qa B0).1⟩
 have g0 : (xk == yk) = true := by simpa using Qa H0
 cases s1
 ·
  have g1 : (xm == ym) = false := by simpa using Qa H1
  go_enter Tryz.func49, Tryz.ntmps49
  go_wp2_with fail
  go_ret
  exact ⟨rfl, (Qa B0).1⟩
 have g1 : (xm == ym) = true := by simpa using Qa H1
 cases s2
 ·
  have g2 : (xt == yt) = false := by simpa using Qa H2
  go_enter Tryz.func49, Tryz.ntmps49
  go_wp2_with fail
  go_ret
  exact ⟨rfl, (Qa B0).1⟩
 have g2 : (xt == yt) = true := by simpa using Qa H2
 go_enter Tryz.func49, Tryz.ntmps49
 have hcl := Qa H3 _ (Qa B0).1
 go_wp2_with fail
 refine hcl.mono ?_
 clear hcl
 rintro en w3 ⟨rfl, b3⟩
 obtain ⟨bb, na, nb⟩ := Qa B0
 have na3 := (b3.block _ (Qag na)).trans na
 have nb3 := (b3.block _ (Qag nb)).trans nb
 have BB3 := hide (Ya (bb.trans (b3.mono bb.size)) (Ya na3 nb3))
 obtain ⟨x_0, x_1, x_2, x_3, x_4, xf⟩ := cl5 na3
 obtain ⟨y_0, y_1, y_2, y_3, y_4, yf⟩ := cl5 nb3
 clear bb na nb b3 na3 nb3
 cases s3
 ·
  go_wp2_with fail
  go_ret
  exact ⟨rfl, (Qa BB3).1⟩
 have hcl := Qa H4 _ (Qa BB3).1
 go_wp2_with fail
 refine hcl.mono ?_
 clear hcl
 rintro en w4 ⟨rfl, b4⟩
 obtain ⟨bb, na, nb⟩ := Qa BB3
 have na4 := (b4.block _ (Qag na)).trans na
 have nb4 := (b4.block _ (Qag nb)).trans nb
 have BB4 := hide (Ya (bb.trans (b4.mono bb.size)) (Ya na4 nb4))
 obtain ⟨x_0, x_1, x_2, x_3, x_4, xf⟩ := cl5 na4
 obtain ⟨y_0, y_1, y_2, y_3, y_4, yf⟩ := cl5 nb4
 clear bb na nb b4 na4 nb4
 cases s4
 ·
  go_wp2_with fail
  go_ret
  exact ⟨rfl, (Qa BB4).1⟩
 go_wp2_with fail
 go_ret
 exact ⟨rfl, (Qa BB4).1⟩
end
end Go.Proofs.YtccehgfecaamoaaGreatDoor
