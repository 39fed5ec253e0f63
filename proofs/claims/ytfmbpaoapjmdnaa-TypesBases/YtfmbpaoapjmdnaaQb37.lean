/- The document's reader by the tokens that are next: prog. -/
import Derived.Test.YtfmbpaoapjmdnaaQb34
import Derived.Test.YtfmbpaoapjmdnaaQb36
set_option maxRecDepth 100000
set_option maxHeartbeats 32000000
namespace Go.Proofs.Ytfmbpaoapjmdnaa
section
open Go.RowKit Go.Maps
abbrev mLRqp0 : List (Nat × Nat) := [(0, 1), (1, 2), (2, 1), (3, 1), (4, 0), (5, 0), (6, 0), (7, 1), (8, 0)]

inductive It where
 | ty (x : Typ)
 | dc (x : Dcl)
 | co (x : Cp)
 | ini (x : Ini)
 | cl (x : Cls)
def addI (p : Pg) : It → Pg
 | .ty x => .mk (p.types ++ [x]) p.decls p.comps p.inits p.clauses
 | .dc x => .mk p.types (p.decls ++ [x]) p.comps p.inits p.clauses
 | .co x => .mk p.types p.decls (p.comps ++ [x]) p.inits p.clauses
 | .ini x => .mk p.types p.decls p.comps (p.inits ++ [x]) p.clauses
 | .cl x => .mk p.types p.decls p.comps p.inits (p.clauses ++ [x])
section
variable {p q : Pg} (h : eqPg p q = true)
include h
theorem Qml {x y : Typ} (e : eqTy x y = true) : eqPg (.mk (p.types ++ [x]) p.decls p.comps p.inits p.clauses) (addI q (.ty y)) = true := by
 rw [Qde] at h ⊢
 simp only [Bool.and_eq_true, addI, Pg.types, Pg.decls, Pg.comps, Pg.inits, Pg.clauses] at h ⊢
 exact ⟨⟨⟨⟨Qcr _ _ _ _ _ h.1.1.1.1 e, h.1.1.1.2⟩, h.1.1.2⟩, h.1.2⟩, h.2⟩
theorem Qmm {x y : Dcl} (e : eqDc x y = true) : eqPg (.mk p.types (p.decls ++ [x]) p.comps p.inits p.clauses) (addI q (.dc y)) = true := by
 rw [Qde] at h ⊢
 simp only [Bool.and_eq_true, addI, Pg.types, Pg.decls, Pg.comps, Pg.inits, Pg.clauses] at h ⊢
 exact ⟨⟨⟨⟨h.1.1.1.1, Qcr _ _ _ _ _ h.1.1.1.2 e⟩, h.1.1.2⟩, h.1.2⟩, h.2⟩
theorem Qmn {x y : Cp} (e : eqCp x y = true) : eqPg (.mk p.types p.decls (p.comps ++ [x]) p.inits p.clauses) (addI q (.co y)) = true := by
 rw [Qde] at h ⊢
 simp only [Bool.and_eq_true, addI, Pg.types, Pg.decls, Pg.comps, Pg.inits, Pg.clauses] at h ⊢
 exact ⟨⟨⟨⟨h.1.1.1.1, h.1.1.1.2⟩, Qcr _ _ _ _ _ h.1.1.2 e⟩, h.1.2⟩, h.2⟩
theorem Qmo {x y : Ini} (e : eqIn x y = true) : eqPg (.mk p.types p.decls p.comps (p.inits ++ [x]) p.clauses) (addI q (.ini y)) = true := by
 rw [Qde] at h ⊢
 simp only [Bool.and_eq_true, addI, Pg.types, Pg.decls, Pg.comps, Pg.inits, Pg.clauses] at h ⊢
 exact ⟨⟨⟨⟨h.1.1.1.1, h.1.1.1.2⟩, h.1.1.2⟩, Qcr _ _ _ _ _ h.1.2 e⟩, h.2⟩
theorem Qmp {x y : Cls} (e : eqCl x y = true) : eqPg (.mk p.types p.decls p.comps p.inits (p.clauses ++ [x])) (addI q (.cl y)) = true := by
 rw [Qde] at h ⊢
 simp only [Bool.and_eq_true, addI, Pg.types, Pg.decls, Pg.comps, Pg.inits, Pg.clauses] at h ⊢
 exact ⟨⟨⟨⟨h.1.1.1.1, h.1.1.1.2⟩, h.1.1.2⟩, h.1.2⟩, Qcr _ _ _ _ _ h.2 e⟩
end
def YI (rb g cap : Nat) (l : List Tok) (d i m : Nat) (K r : List Tok) : It → Prop
 | .ty x => m = i ∧ ∃ K', K = sgQ [46, 116, 121, 112, 101] :: K' ∧ ∀ (w : World) (a : Nat) (at0 : Int), Rr rb g cap l w a d i 0 0 → Nxt l a (K' ++ r) → Calls Try.prog 52 #[.pointer (some ⟨rb, 0, none⟩), .int .i64 at0] w fun en w' => XB rb g cap l w d (fun w' v => ∃ x', VTy (fun b => w.heap.size ≤ b) w' v x' ∧ eqTy x' x = true) r i en w'
 | .dc x => m = i ∧ ∃ K', K = sgQ [46, 100, 101, 99, 108] :: K' ∧ ∀ (w : World) (a : Nat) (at0 : Int), Rr rb g cap l w a d i 0 0 → Nxt l a (K' ++ r) → Calls Try.prog 53 #[.pointer (some ⟨rb, 0, none⟩), .int .i64 at0] w fun en w' => XB rb g cap l w d (fun w' v => ∃ x', VDc (fun b => w.heap.size ≤ b) w' v x' ∧ eqDc x' x = true) r i en w'
 | .co x => ∃ K', K = sgQ [46, 99, 111, 109, 112] :: K' ∧ d < 32 ∧ i ≤ m ∧ m ≤ 96 ∧ ∀ (w : World) (a : Nat) (at0 : Int), Rr rb g cap l w a (d + 1) i 0 0 → Nxt l a (K' ++ r) → Calls Try.prog 56 #[.pointer (some ⟨rb, 0, none⟩), .int .i64 at0] w fun en w' => XB rb g cap l w (d + 1) (fun w' v => ∃ x', VCo (fun b => w.heap.size ≤ b) w' v x' ∧ eqCp x' x = true) r m en w'
 | .ini x => m = i ∧ K = [sgQ [46, 105, 110, 105, 116], nmR x.name, sgQ [61], nmR x.comp] ∧ wordP x.name = true ∧ x.name ≠ [95]
 | .cl x => m = i ∧ (∃ s K', K = nmR s :: K') ∧ ∀ (w : World) (a : Nat), Rr rb g cap l w a d i 0 0 → Nxt l a (K ++ r) → Calls Try.prog 60 #[.pointer (some ⟨rb, 0, none⟩)] w fun en w' => XB rb g cap l w d (fun w' v => ∃ x', VCl (fun b => w.heap.size ≤ b) w' v x' ∧ eqCl x' x = true) r i en w'
def YIs (rb g cap : Nat) (l : List Tok) (d j : Nat) (r : List Tok) : List It → Nat → List Tok → Prop
 | [], i, K => j = i ∧ K = []
 | it :: its, i, K => ∃ K1 K2 m, K = K1 ++ K2 ∧ i + 1 ≤ 96 ∧ YI rb g cap l d (i + 1) m K1 (K2 ++ r) it ∧ YIs rb g cap l d j r its m K2
theorem Qqm {rb g cap : Nat} {l : List Tok} {d i j : Nat} (hi : i ≤ 96) {K r : List Tok} {its : List It} (hY : YIs rb g cap l d j r its i K) (hr : ∃ t0 r0, r = t0 :: r0 ∧ (t0.kind = 0 ∨ t0.kind ≠ 0 ∧ isSg t0 [125] = true)) : YP rb g cap l d i j K r (its.foldl addI .none) := by
 intro w a h hA
 obtain ⟨x0, hx0⟩ : ∃ x0, its.foldl addI .none = x0 := ⟨_, rfl⟩
 rw [hx0]
 obtain ⟨w1, hw1⟩ : ∃ w1, w1 = w.alloc (.cells #[.slice none 0 0, .slice none 0 0, .slice none 0 0, .slice none 0 0, .slice none 0 0] 28) := ⟨_, rfl⟩
 obtain ⟨w2, hw2⟩ : ∃ w2, w2 = w1.alloc (.cells #[.slice none 0 0, .slice none 0 0, .slice none 0 0, .slice none 0 0, .slice none 0 0] 28) := ⟨_, rfl⟩
 obtain ⟨pb, hpb⟩ : ∃ pb, w.heap.size + 1 = pb := ⟨_, rfl⟩
 have b1 : Below w.heap.size w w1 := by rw [hw1]; exact (Below.refl _ w).alloc (Nat.le_refl _) _
 have n1 : w1.heap[w.heap.size]? = some (.cells #[.slice none 0 0, .slice none 0 0, .slice none 0 0, .slice none 0 0, .slice none 0 0] 28 (0, 0)) := by rw [hw1]; exact heap_alloc_new w _
 have s1 : w1.heap.size = w.heap.size + 1 := by rw [hw1]; simp
 have b2 : Below w1.heap.size w1 w2 := by rw [hw2]; exact (Below.refl _ w1).alloc (Nat.le_refl _) _
 have n2 : w2.heap[pb]? = some (.cells #[.slice none 0 0, .slice none 0 0, .slice none 0 0, .slice none 0 0, .slice none 0 0] 28 (0, 0)) := by rw [hw2, ← hpb, ← s1]; exact heap_alloc_new w1 _
 have q2 : w2.heap[w.heap.size]? = some (.cells #[.slice none 0 0, .slice none 0 0, .slice none 0 0, .slice none 0 0, .slice none 0 0] 28 (0, 0)) := (b2.block _ (by omega)).trans n1
 have hap : Apt (.slice none 0 0) (.slice none 0 0) := fun b e _ => by cases e
 have hb2 : Below w.heap.size w w2 := b1.trans (b2.mono (by omega))
 have S0 : Hid (StP rb g cap l w d i a 0 pb w2 (.slice none 0 0) (.slice none 0 0) (.slice none 0 0) (.slice none 0 0) (.slice none 0 0) .none a i 0 0) := ⟨h.later hb2, ⟨⟨n2, by omega, Row.nil _ _, Row.nil _ _, Row.nil _ _, Row.nil _ _, Row.nil _ _, hap, hap, hap, hap, hap, hap, hap, hap, hap, hap⟩, Kp.of_below hb2, q2, Qab h.box, h.row.lt, by omega⟩, Nat.le_refl _, Nat.le_refl _, by omega, fun _ => ⟨rfl, hi⟩, Nat.zero_le _⟩
 have HR := hide hr
 have HA := hide (Ya hY (Ya hA hx0))
 have HW := hide (Ya hw2 (Ya hw1 hpb))
 clear h hA hx0 hY hr hw1 hw2 hpb b1 n1 s1 b2 n2 q2 hap hb2
 go_enter Try.func16, Try.ntmps16
 go_wp2_with fail
 rw [← (Qa HW).2.1, ← (Qa HW).1, (Qa HW).2.2]
 clear HW
 go_loopw [4] (fun _ wr => ∃ (p : Pg) (e0 e1 e2 e3 e4 : Option Addr) (c0 c1 c2 c3 c4 : Nat) (a1 i1 : Nat) (q : Pg) (js : List It) (KK : List Tok), Hid (StP rb g cap l w d i a 0 pb wr (.slice e0 p.types.length c0) (.slice e1 p.decls.length c1) (.slice e2 p.comps.length c2) (.slice e3 p.inits.length c3) (.slice e4 p.clauses.length c4) p a1 i1 0 0) ∧ Hid (YIs rb g cap l d j r js i1 KK ∧ Nxt l a1 (KK ++ r) ∧ eqPg p q = true ∧ js.foldl addI q = x0)) (fun _ wr => leftR rb l.length wr)
 case atStart => exact ⟨.none, none, none, none, none, none, 0, 0, 0, 0, 0, a, i, .none, its, K, S0, hide ⟨(Qa HA).1, (Qa HA).2.1, by simp [Pg.none, Qde, Pg.types, Pg.decls, Pg.comps, Pg.inits, Pg.clauses, eqL], (Qa HA).2.2⟩⟩
 obtain ⟨p, e0, e1, e2, e3, e4, c0, c1, c2, c3, c4, a1, i1, q, js, KK, HI, HJ⟩ := hrel
 clear S0 HA its K
 have hwl := Qao (Qa HI).r
 rw [decide_eq_true rfl] at hwl
 obtain ⟨hjs, hnx, heqp, hfold⟩ := Qa HJ
 clear HJ
 cases js with
 | nil =>
  obtain ⟨rfl, rfl⟩ := hjs
  rw [List.nil_append] at hnx
  have HEN := hide (Ya hnx (Ya heqp (show q = x0 from hfold)))
  obtain ⟨t0, r0, hr0, hend⟩ := Qa HR
  rw [hr0] at hnx
  obtain ⟨t, ht, hz, _⟩ := hnx.at
  have HT := hide ht
  simp only [zk, Prod.mk.injEq] at hz
  have HZ := hide hz
  clear ht hz hnx heqp hfold hr0
  have SI := HI
  go_wp2_with fail
  refine hwl.mono ?_
  clear hwl
  rintro en wq ⟨rfl, rfl⟩
  have hcl := Qak (Qa SI).r (Qa HT)
  unfold tkA at hcl
  go_wp2_with fail
  refine hcl.mono ?_
  clear hcl
  rintro en w1 ⟨rfl, b1⟩
  have S1 := hide ((Qa SI).call (Kp.of_below b1) ((Qa SI).r.later b1))
  clear b1
  rcases hend with hk | ⟨hk, hs⟩
  ·
   have gu : (t.kind != 0) = false := by rw [(Qa HZ).1, hk]; rfl
   clear hk
   go_wp2_with fail
   rename_i hK
   refine hK _ _ ?_
   clear hK
   have g9 := Qa S1
   obtain ⟨x_0, x_1, x_2, x_3, x_4, xf⟩ := cl5 g9.b.p5.box
   obtain ⟨y_0, y_1, y_2, y_3, y_4, yf⟩ := cl5 g9.b.res
   have HF : Hid (∀ q0 q1 q2 q3 q4, XB rb g cap l w d (fun w' v => ∃ x', pgX w w' v x' ∧ eqPg x' x0 = true) r j (.returned (.agg #[.slice e0 p.types.length c0, .slice e1 p.decls.length c1, .slice e2 p.comps.length c2, .slice e3 p.inits.length c3, .slice e4 p.clauses.length c4])) (((((w1.setCell ⟨w.heap.size, 0, none⟩ q0).setCell ⟨w.heap.size, 1, none⟩ q1).setCell ⟨w.heap.size, 2, none⟩ q2).setCell ⟨w.heap.size, 3, none⟩ q3).setCell ⟨w.heap.size, 4, none⟩ q4)) := fun q0 q1 q2 q3 q4 => by
    obtain ⟨K9, P9⟩ := g9.b.fin (W' := (((((w1.setCell ⟨w.heap.size, 0, none⟩ q0).setCell ⟨w.heap.size, 1, none⟩ q1).setCell ⟨w.heap.size, 2, none⟩ q2).setCell ⟨w.heap.size, 3, none⟩ q3).setCell ⟨w.heap.size, 4, none⟩ q4)) (by simp [World.setCell]) ⟨rfl, rfl, rfl⟩ (fun q hq => by rw [hpS hq, hpS hq, hpS hq, hpS hq, hpS hq])
    have hr1 := g9.b.r1
    have hg1 := g9.b.g1
    have hb : ∀ q, q ≠ w.heap.size → (((((w1.setCell ⟨w.heap.size, 0, none⟩ q0).setCell ⟨w.heap.size, 1, none⟩ q1).setCell ⟨w.heap.size, 2, none⟩ q2).setCell ⟨w.heap.size, 3, none⟩ q3).setCell ⟨w.heap.size, 4, none⟩ q4).heap[q]? = w1.heap[q]? := fun q hq => by rw [hpS hq, hpS hq, hpS hq, hpS hq, hpS hq]
    obtain ⟨f2, f3, f4⟩ := Qa HEN
    exact ⟨_, _, rfl, ⟨p, ⟨_, _, _, _, _, _, _, _, _, _, _, _, _, _, _, rfl, P9⟩, f4 ▸ f3⟩, g9.r.move (by simp [World.setCell]) (hb rb (by omega)) (hb g (by omega)), K9, f2⟩
   clear g9
   go_wp2_with fail
   refine bodyPost_ret (v := .agg #[.slice e0 p.types.length c0, .slice e1 p.decls.length c1, .slice e2 p.comps.length c2, .slice e3 p.inits.length c3, .slice e4 p.clauses.length c4]) (by simp [results, Try.results16, go_sem, y_0, y_1, y_2, y_3, y_4]) rfl ?_
   exact Qa HF _ _ _ _ _
  have gu : (t.kind != 0) = true := by rw [(Qa HZ).1]; simpa using hk
  have hsg := Qgg (Qa S1).r (Qa HT) [125]
  rw [show isSg t [125] = true by rw [← hs]; exact Qfs (by simp only [zk, Prod.mk.injEq]; exact Qa HZ) _] at hsg
  clear hk hs
  go_wp2_with fail
  rename_i hK
  refine hK _ _ ?_
  clear hK
  go_wp2_with fail
  refine hsg.mono ?_
  clear hsg
  rintro en w2 ⟨rfl, b2⟩
  have S2 := hide ((Qa S1).call (Kp.of_below b2) ((Qa S1).r.later b2))
  clear b2
  have g9 := Qa S2
  obtain ⟨x_0, x_1, x_2, x_3, x_4, xf⟩ := cl5 g9.b.p5.box
  obtain ⟨y_0, y_1, y_2, y_3, y_4, yf⟩ := cl5 g9.b.res
  have HF : Hid (∀ q0 q1 q2 q3 q4, XB rb g cap l w d (fun w' v => ∃ x', pgX w w' v x' ∧ eqPg x' x0 = true) r j (.returned (.agg #[.slice e0 p.types.length c0, .slice e1 p.decls.length c1, .slice e2 p.comps.length c2, .slice e3 p.inits.length c3, .slice e4 p.clauses.length c4])) (((((w2.setCell ⟨w.heap.size, 0, none⟩ q0).setCell ⟨w.heap.size, 1, none⟩ q1).setCell ⟨w.heap.size, 2, none⟩ q2).setCell ⟨w.heap.size, 3, none⟩ q3).setCell ⟨w.heap.size, 4, none⟩ q4)) := fun q0 q1 q2 q3 q4 => by
   obtain ⟨K9, P9⟩ := g9.b.fin (W' := (((((w2.setCell ⟨w.heap.size, 0, none⟩ q0).setCell ⟨w.heap.size, 1, none⟩ q1).setCell ⟨w.heap.size, 2, none⟩ q2).setCell ⟨w.heap.size, 3, none⟩ q3).setCell ⟨w.heap.size, 4, none⟩ q4)) (by simp [World.setCell]) ⟨rfl, rfl, rfl⟩ (fun q hq => by rw [hpS hq, hpS hq, hpS hq, hpS hq, hpS hq])
   have hr1 := g9.b.r1
   have hg1 := g9.b.g1
   have hb : ∀ q, q ≠ w.heap.size → (((((w2.setCell ⟨w.heap.size, 0, none⟩ q0).setCell ⟨w.heap.size, 1, none⟩ q1).setCell ⟨w.heap.size, 2, none⟩ q2).setCell ⟨w.heap.size, 3, none⟩ q3).setCell ⟨w.heap.size, 4, none⟩ q4).heap[q]? = w2.heap[q]? := fun q hq => by rw [hpS hq, hpS hq, hpS hq, hpS hq, hpS hq]
   obtain ⟨f2, f3, f4⟩ := Qa HEN
   exact ⟨_, _, rfl, ⟨p, ⟨_, _, _, _, _, _, _, _, _, _, _, _, _, _, _, rfl, P9⟩, f4 ▸ f3⟩, g9.r.move (by simp [World.setCell]) (hb rb (by omega)) (hb g (by omega)), K9, f2⟩
  clear g9
  go_wp2_with fail
  refine bodyPost_ret (v := .agg #[.slice e0 p.types.length c0, .slice e1 p.decls.length c1, .slice e2 p.comps.length c2, .slice e3 p.inits.length c3, .slice e4 p.clauses.length c4]) (by simp [results, Try.results16, go_sem, y_0, y_1, y_2, y_3, y_4]) rfl ?_
  exact Qa HF _ _ _ _ _
 | cons it its =>
  obtain ⟨K1, K2, m, rfl, h96, hit, hrest⟩ := hjs
  rw [List.append_assoc] at hnx
  cases it with
  | ty x0i =>
   obtain ⟨rfl, K', rfl, hcall⟩ := hit
   have hN1 : Nxt l a1 (sgQ [46, 116, 121, 112, 101] :: (K' ++ (K2 ++ r))) := hnx
   obtain ⟨t, ht, hz, _⟩ := hN1.at
   have gu : (t.kind != 0) = true := by
    simp only [zk, sgQ, Prod.mk.injEq] at hz
    rw [hz.1]; rfl
   have HT := hide ht
   have HNX := hide (Ya hnx (show 0 < (sgQ [46, 116, 121, 112, 101] :: K').length by simp))
   have HYI := hide (Ya (show i1 + 1 ≤ 96 by omega) (Ya hrest (Ya heqp (show its.foldl addI (addI q (.ty x0i)) = x0 from hfold))))
   have HN4 := hide hN1
   clear ht hz hnx hrest heqp hfold hN1
   have SI := HI
   go_wp2_with fail
   refine hwl.mono ?_
   clear hwl
   rintro en wq ⟨rfl, rfl⟩
   have hcl := Qak (Qa SI).r (Qa HT)
   unfold tkA at hcl
   go_wp2_with fail
   refine hcl.mono ?_
   clear hcl
   rintro en w1 ⟨rfl, b1⟩
   have S1 := hide ((Qa SI).call (Kp.of_below b1) ((Qa SI).r.later b1))
   clear b1
   have hsg := Qbe (Qa S1).r (Qa HN4) [125]
   rw [show isSg (sgQ [46, 116, 121, 112, 101]) [125] = false by decide] at hsg
   go_wp2_with fail
   rename_i hK
   refine hK _ _ ?_
   clear hK
   go_wp2_with fail
   refine hsg.mono ?_
   clear hsg
   rintro en w2 ⟨rfl, b2⟩
   have S2 := hide ((Qa S1).call (Kp.of_below b2) ((Qa S1).r.later b2))
   clear b2
   obtain ⟨q_0, q_1, q_2, q_3, q_4, q_5, qf⟩ := cl6 (Qa S2).r.box
   obtain ⟨w3, hw3⟩ : ∃ w3, w3 = w2.setCell ⟨rb, 3, none⟩ (.int .i64 ((i1 : Int) + 1)) := ⟨_, rfl⟩
   have h3 : Rr rb g cap l w3 a1 d (i1 + 1) 0 0 := by rw [hw3]; exact (Qa S2).r.setI (i' := i1 + 1) (by omega)
   have G3 : PgB rb g w pb w3 (.slice e0 p.types.length c0) (.slice e1 p.decls.length c1) (.slice e2 p.comps.length c2) (.slice e3 p.inits.length c3) (.slice e4 p.clauses.length c4) p := by rw [hw3]; exact (Qa S2).b.call (Kp.set _ _ _ _)
   have HLN := hide (Qa S2).ln
   have HW3 := hide hw3
   have g96 : ¬ ((96 : Int) < (i1 : Int) + 1) := by omega
   have S3 : Hid (StP rb g cap l w d i a 0 pb w3 (.slice e0 p.types.length c0) (.slice e1 p.decls.length c1) (.slice e2 p.comps.length c2) (.slice e3 p.inits.length c3) (.slice e4 p.clauses.length c4) p a1 (i1 + 1) 0 0) := ⟨h3, G3, (Qa S2).le, by have := (Qa S2).ile; omega, by omega, fun _ => ⟨rfl, by omega⟩, by have := (Qa S2).ln; omega⟩
   have hcl := Qak (Qa S3).r (Qa HT)
   unfold tkA at hcl
   clear h3 G3 hw3
   go_wp2_with fail
   rw [← Qa HW3]
   clear HW3 q_0 q_1 q_2 q_3 q_4 q_5 qf
   refine hcl.mono ?_
   clear hcl
   rintro en w4 ⟨rfl, b4⟩
   have S4 := hide ((Qa S3).call (Kp.of_below b4) ((Qa S3).r.later b4))
   clear b4
   go_wp2_with fail
   rename_i hK
   refine hK _ _ ?_
   clear hK
   have hmy := Qcu (Qa S4).r (Qa HN4)
   go_wp2_with fail
   refine hmy.mono ?_
   clear hmy
   rintro en w5 ⟨_, aN, rfl, rfl, hN5, kN5, nN5⟩
   have eN : aN = a1 + 1 := by
    have q1 := (Qa HN4).len
    have q2 := nN5.len
    have q3 := (Qa S4).r.lt
    have q4 := hN5.lt
    simp only [List.length_cons] at q1
    omega
   rw [eN] at hN5 nN5
   clear eN
   have S5 := hide ((Qa S4).mayT kN5 hN5)
   have HN5 := hide nN5
   clear hN5 kN5 nN5
   have SD := hide ((Qa S5).call (W' := w5.drew) (Kp.of_below (Below.refl _ w5).drew) ((Qa S5).r.later (Below.refl _ w5).drew))
   have hcl := hcall _ _ (t.at_ : Int) (Qa SD).r (Qa HN5)
   go_wp2_with fail
   refine Qam (m := 8) (ml := mLRqp0) (fun ff w' => ff = false → w'.heap[pb]? = some (.cells #[.slice e0 p.types.length c0, .slice e1 p.decls.length c1, .slice e2 p.comps.length c2, .slice e3 p.inits.length c3, .slice e4 p.clauses.length c4] 28 (0, 0))) mixedO (by kernel_rfl) rfl (by rfl) (by kernel_rfl) (fun PP hPP => ?_)
   refine Qad rfl (by kernel_rfl) (fun _ _ _ => by go_simp <;> rfl) ?_
   refine Qaq (v := ?_) rfl (by kernel_rfl) (fun w' hw => ?_) ?_
   rotate_left
   · (obtain ⟨z_0, z_1, z_2, z_3, z_4, zf⟩ := cl5 (hw rfl); go_simp <;> rfl)
   refine Qad rfl (by kernel_rfl) (fun _ _ _ => by go_simp <;> rfl) ?_
   refine Qad rfl (by kernel_rfl) (fun _ _ _ => by go_simp <;> rfl) ?_
   refine Qaa rfl (fun _ => (Qa SD).b.p5.box) (fun K hK => ?_)
   go_simp
   refine hcl.mono ?_
   clear hcl
   rintro en w6 ⟨_, a6, rfl, ⟨x, ⟨xa, xn, xc, rfl, hX⟩, heq⟩, h6, k6, n6⟩
   show K _ _
   refine hK _ _ ?_
   clear hK K
   have sD := Qa SD
   have hx1 := sD.b.x1
   have hr1 := sD.b.r1
   obtain ⟨ga, gc, w8, hrun, bx8, G9, R9⟩ := sD.b.more0 k6 h6 (x := x) (cs := [str x.name, str x.sub, .slice xa xn xc, .int .i64 x.at_]) rfl (by simp [Value.oneCell', str]) ⟨_, _, _, rfl, hX⟩ (by have := sD.i97; have := sD.ln; simp only [lenP] at this; omega)
   obtain ⟨w7, hw7⟩ : ∃ w7, w7 = w6.alloc (.cells #[str x.name, str x.sub, .slice xa xn xc, .int .i64 x.at_] 68) := ⟨_, rfl⟩
   have b7 : Below w6.heap.size w6 w7 := by rw [hw7]; exact (Below.refl _ w6).alloc (Nat.le_refl _) _
   have bx6 := k6.keep sD.b.p5.box (by omega)
   have HC6 := hide bx6
   have HC7 := hide ((b7.block _ (Qab bx6)).trans bx6)
   have HC8 := hide bx8
   obtain ⟨u_0, u_1, u_2, u_3, u_4, uf⟩ := cl5 bx8
   have hrun' : (Builtin.append_ #[22, 22] 22 #[.slice e0 p.types.length c0, .slice (some ⟨w6.heap.size, 0, none⟩) 1 1]).run Try.prog w7 = .ok (.slice (some ⟨ga, 0, none⟩) (p.types.length + 1) gc) w8 := by rw [hw7]; exact hrun
   have HW7 := hide hw7
   have hlt : a1 < a6 := Nxt.lt2 (Qa HNX).1 n6 (Qa HI).r.lt (by have q := (Qa HNX).2; simp only [List.length_append, List.length_cons] at q ⊢; omega)
   have m1 : StP rb g cap l w d i a 0 pb (w8.setCell ⟨pb, 0, none⟩ (.slice (some ⟨ga, 0, none⟩) (p.types.length + 1) gc)) (.slice (some ⟨ga, 0, none⟩) (p.types.length + 1) gc) (.slice e1 p.decls.length c1) (.slice e2 p.comps.length c2) (.slice e3 p.inits.length c3) (.slice e4 p.clauses.length c4) (.mk (p.types ++ [x]) p.decls p.comps p.inits p.clauses) a6 (i1 + 1) 0 0 := ⟨R9, G9, by have := (Qa HI).le; omega, by have := sD.ile; omega, sD.i97, fun _ => ⟨rfl, (Qa HYI).1⟩, by have := Qa HLN; simp [lenP, Pg.types, Pg.decls, Pg.comps, Pg.inits, Pg.clauses] at this ⊢; omega⟩
   have HE := hide (Ya m1 (Ya hlt (Ya (Qa HYI).2.1 (Ya n6 (Ya (Qml (Qa HYI).2.2.1 heq) (Qa HYI).2.2.2)))))
   clear hX heq hlt n6 h6 k6 hrun hw7 b7 bx6 bx8 G9 R9 m1 sD hx1 hr1
   refine Qaa rfl (fun _ => Qa HC6) (fun K hK => ?_)
   go_simp
   rw [← Qa HW7]
   clear HW7
   refine hK _ _ ?_
   clear hK K
   refine Qaa rfl (fun _ => Qa HC7) (fun K hK => Qas rfl _ _ 22 rfl _ _ rfl rfl hrun' (hK _ _ ?_))
   clear hK K hrun'
   refine Qad rfl (by kernel_rfl) (fun _ _ _ => by go_simp <;> rfl) ?_
   refine Qaa rfl (fun _ => Qa HC8) (fun K hK => ?_)
   go_simp
   refine hK _ _ ?_
   clear hK K
   refine Qap (fun h => by cases h) (hPP _ _ ?_)
   clear hPP PP
   go_wp2_with fail
   go_roundw
   case rel =>
    obtain ⟨m1, m2, m3, m4, m5, m6⟩ := Qa HE
    exact ⟨(.mk (p.types ++ [x]) p.decls p.comps p.inits p.clauses), _, _, _, _, _, _, _, _, _, _, a6, (i1 + 1), _, its, K2, hide (by simpa [Pg.types, Pg.decls, Pg.comps, Pg.inits, Pg.clauses] using m1), hide ⟨m3, m4, m5, m6⟩⟩
   obtain ⟨m1, m2, _⟩ := Qa HE
   rw [Qai (Qa HI).r l.length, Qai m1.r l.length, if_pos rfl, if_pos rfl]
   have q1 := (Qa HI).r.lt
   have q2 := m1.r.lt
   omega
  | dc x0i =>
   obtain ⟨rfl, K', rfl, hcall⟩ := hit
   have hN1 : Nxt l a1 (sgQ [46, 100, 101, 99, 108] :: (K' ++ (K2 ++ r))) := hnx
   obtain ⟨t, ht, hz, _⟩ := hN1.at
   have gu : (t.kind != 0) = true := by
    simp only [zk, sgQ, Prod.mk.injEq] at hz
    rw [hz.1]; rfl
   have HT := hide ht
   have HNX := hide (Ya hnx (show 0 < (sgQ [46, 100, 101, 99, 108] :: K').length by simp))
   have HYI := hide (Ya (show i1 + 1 ≤ 96 by omega) (Ya hrest (Ya heqp (show its.foldl addI (addI q (.dc x0i)) = x0 from hfold))))
   have HN4 := hide hN1
   clear ht hz hnx hrest heqp hfold hN1
   have SI := HI
   go_wp2_with fail
   refine hwl.mono ?_
   clear hwl
   rintro en wq ⟨rfl, rfl⟩
   have hcl := Qak (Qa SI).r (Qa HT)
   unfold tkA at hcl
   go_wp2_with fail
   refine hcl.mono ?_
   clear hcl
   rintro en w1 ⟨rfl, b1⟩
   have S1 := hide ((Qa SI).call (Kp.of_below b1) ((Qa SI).r.later b1))
   clear b1
   have hsg := Qbe (Qa S1).r (Qa HN4) [125]
   rw [show isSg (sgQ [46, 100, 101, 99, 108]) [125] = false by decide] at hsg
   go_wp2_with fail
   rename_i hK
   refine hK _ _ ?_
   clear hK
   go_wp2_with fail
   refine hsg.mono ?_
   clear hsg
   rintro en w2 ⟨rfl, b2⟩
   have S2 := hide ((Qa S1).call (Kp.of_below b2) ((Qa S1).r.later b2))
   clear b2
   obtain ⟨q_0, q_1, q_2, q_3, q_4, q_5, qf⟩ := cl6 (Qa S2).r.box
   obtain ⟨w3, hw3⟩ : ∃ w3, w3 = w2.setCell ⟨rb, 3, none⟩ (.int .i64 ((i1 : Int) + 1)) := ⟨_, rfl⟩
   have h3 : Rr rb g cap l w3 a1 d (i1 + 1) 0 0 := by rw [hw3]; exact (Qa S2).r.setI (i' := i1 + 1) (by omega)
   have G3 : PgB rb g w pb w3 (.slice e0 p.types.length c0) (.slice e1 p.decls.length c1) (.slice e2 p.comps.length c2) (.slice e3 p.inits.length c3) (.slice e4 p.clauses.length c4) p := by rw [hw3]; exact (Qa S2).b.call (Kp.set _ _ _ _)
   have HLN := hide (Qa S2).ln
   have HW3 := hide hw3
   have g96 : ¬ ((96 : Int) < (i1 : Int) + 1) := by omega
   have S3 : Hid (StP rb g cap l w d i a 0 pb w3 (.slice e0 p.types.length c0) (.slice e1 p.decls.length c1) (.slice e2 p.comps.length c2) (.slice e3 p.inits.length c3) (.slice e4 p.clauses.length c4) p a1 (i1 + 1) 0 0) := ⟨h3, G3, (Qa S2).le, by have := (Qa S2).ile; omega, by omega, fun _ => ⟨rfl, by omega⟩, by have := (Qa S2).ln; omega⟩
   have hcl := Qak (Qa S3).r (Qa HT)
   unfold tkA at hcl
   clear h3 G3 hw3
   go_wp2_with fail
   rw [← Qa HW3]
   clear HW3 q_0 q_1 q_2 q_3 q_4 q_5 qf
   refine hcl.mono ?_
   clear hcl
   rintro en w4 ⟨rfl, b4⟩
   have S4 := hide ((Qa S3).call (Kp.of_below b4) ((Qa S3).r.later b4))
   clear b4
   go_wp2_with fail
   rename_i hK
   refine hK _ _ ?_
   clear hK
   have hmy := Qch (s := [46, 116, 121, 112, 101]) (Qa S4).r (Qa HN4) (by decide)
   go_wp2_with fail
   refine hmy.mono ?_
   clear hmy
   rintro en w5 ⟨_, aN5, rfl, rfl, hN5, kN5, nN5⟩
   have eN : aN5 = a1 := Nat.le_antisymm (Nxt.le2 nN5 (Qa HN4) hN5.lt (Nat.le_refl _)) (Nxt.le2 (Qa HN4) nN5 (Qa S4).r.lt (Nat.le_refl _))
   rw [eN] at hN5 nN5
   clear eN
   have S5 := hide ((Qa S4).call kN5 hN5)
   have HN5 := hide nN5
   clear hN5 kN5 nN5
   have hmy := Qcu (Qa S5).r (Qa HN5)
   go_wp2_with fail
   refine hmy.mono ?_
   clear hmy
   rintro en wD ⟨_, aN, rfl, rfl, hN6, kN6, nN6⟩
   have eN : aN = a1 + 1 := by
    have q1 := (Qa HN5).len
    have q2 := nN6.len
    have q3 := (Qa S5).r.lt
    have q4 := hN6.lt
    simp only [List.length_cons] at q1
    omega
   rw [eN] at hN6 nN6
   clear eN
   have S6 := hide ((Qa S5).mayT kN6 hN6)
   have HN6 := hide nN6
   clear hN6 kN6 nN6
   have SD := hide ((Qa S6).call (W' := wD.drew) (Kp.of_below (Below.refl _ wD).drew) ((Qa S6).r.later (Below.refl _ wD).drew))
   have hcl := hcall _ _ (t.at_ : Int) (Qa SD).r (Qa HN6)
   go_wp2_with fail
   refine Qam (m := 8) (ml := mLRqp0) (fun ff w' => ff = false → w'.heap[pb]? = some (.cells #[.slice e0 p.types.length c0, .slice e1 p.decls.length c1, .slice e2 p.comps.length c2, .slice e3 p.inits.length c3, .slice e4 p.clauses.length c4] 28 (0, 0))) mixedO (by kernel_rfl) rfl (by rfl) (by kernel_rfl) (fun PP hPP => ?_)
   refine Qad rfl (by kernel_rfl) (fun _ _ _ => by go_simp <;> rfl) ?_
   refine Qaq (v := ?_) rfl (by kernel_rfl) (fun w' hw => ?_) ?_
   rotate_left
   · (obtain ⟨z_0, z_1, z_2, z_3, z_4, zf⟩ := cl5 (hw rfl); go_simp <;> rfl)
   refine Qad rfl (by kernel_rfl) (fun _ _ _ => by go_simp <;> rfl) ?_
   refine Qad rfl (by kernel_rfl) (fun _ _ _ => by go_simp <;> rfl) ?_
   refine Qaa rfl (fun _ => (Qa SD).b.p5.box) (fun K hK => ?_)
   go_simp
   refine hcl.mono ?_
   clear hcl
   rintro en w6 ⟨_, a6, rfl, ⟨x, ⟨xa, xn, xc, rfl, hX⟩, heq⟩, h6, k6, n6⟩
   show K _ _
   refine hK _ _ ?_
   clear hK K
   have sD := Qa SD
   have hx1 := sD.b.x1
   have hr1 := sD.b.r1
   obtain ⟨ga, gc, w8, hrun, bx8, G9, R9⟩ := sD.b.more1 k6 h6 (x := x) (cs := [str x.name, .slice xa xn xc, .bool x.input, .bool x.output, .int .i64 x.at_]) rfl (by simp [Value.oneCell', str]) ⟨_, _, _, rfl, hX⟩ (by have := sD.i97; have := sD.ln; simp only [lenP] at this; omega)
   obtain ⟨w7, hw7⟩ : ∃ w7, w7 = w6.alloc (.cells #[str x.name, .slice xa xn xc, .bool x.input, .bool x.output, .int .i64 x.at_] 43) := ⟨_, rfl⟩
   have b7 : Below w6.heap.size w6 w7 := by rw [hw7]; exact (Below.refl _ w6).alloc (Nat.le_refl _) _
   have bx6 := k6.keep sD.b.p5.box (by omega)
   have HC6 := hide bx6
   have HC7 := hide ((b7.block _ (Qab bx6)).trans bx6)
   have HC8 := hide bx8
   obtain ⟨u_0, u_1, u_2, u_3, u_4, uf⟩ := cl5 bx8
   have hrun' : (Builtin.append_ #[23, 23] 23 #[.slice e1 p.decls.length c1, .slice (some ⟨w6.heap.size, 0, none⟩) 1 1]).run Try.prog w7 = .ok (.slice (some ⟨ga, 0, none⟩) (p.decls.length + 1) gc) w8 := by rw [hw7]; exact hrun
   have HW7 := hide hw7
   have hlt : a1 < a6 := Nxt.lt2 (Qa HNX).1 n6 (Qa HI).r.lt (by have q := (Qa HNX).2; simp only [List.length_append, List.length_cons] at q ⊢; omega)
   have m1 : StP rb g cap l w d i a 0 pb (w8.setCell ⟨pb, 1, none⟩ (.slice (some ⟨ga, 0, none⟩) (p.decls.length + 1) gc)) (.slice e0 p.types.length c0) (.slice (some ⟨ga, 0, none⟩) (p.decls.length + 1) gc) (.slice e2 p.comps.length c2) (.slice e3 p.inits.length c3) (.slice e4 p.clauses.length c4) (.mk p.types (p.decls ++ [x]) p.comps p.inits p.clauses) a6 (i1 + 1) 0 0 := ⟨R9, G9, by have := (Qa HI).le; omega, by have := sD.ile; omega, sD.i97, fun _ => ⟨rfl, (Qa HYI).1⟩, by have := Qa HLN; simp [lenP, Pg.types, Pg.decls, Pg.comps, Pg.inits, Pg.clauses] at this ⊢; omega⟩
   have HE := hide (Ya m1 (Ya hlt (Ya (Qa HYI).2.1 (Ya n6 (Ya (Qmm (Qa HYI).2.2.1 heq) (Qa HYI).2.2.2)))))
   clear hX heq hlt n6 h6 k6 hrun hw7 b7 bx6 bx8 G9 R9 m1 sD hx1 hr1
   refine Qaa rfl (fun _ => Qa HC6) (fun K hK => ?_)
   go_simp
   rw [← Qa HW7]
   clear HW7
   refine hK _ _ ?_
   clear hK K
   refine Qaa rfl (fun _ => Qa HC7) (fun K hK => Qas rfl _ _ 23 rfl _ _ rfl rfl hrun' (hK _ _ ?_))
   clear hK K hrun'
   refine Qad rfl (by kernel_rfl) (fun _ _ _ => by go_simp <;> rfl) ?_
   refine Qaa rfl (fun _ => Qa HC8) (fun K hK => ?_)
   go_simp
   refine hK _ _ ?_
   clear hK K
   refine Qap (fun h => by cases h) (hPP _ _ ?_)
   clear hPP PP
   go_wp2_with fail
   go_roundw
   case rel =>
    obtain ⟨m1, m2, m3, m4, m5, m6⟩ := Qa HE
    exact ⟨(.mk p.types (p.decls ++ [x]) p.comps p.inits p.clauses), _, _, _, _, _, _, _, _, _, _, a6, (i1 + 1), _, its, K2, hide (by simpa [Pg.types, Pg.decls, Pg.comps, Pg.inits, Pg.clauses] using m1), hide ⟨m3, m4, m5, m6⟩⟩
   obtain ⟨m1, m2, _⟩ := Qa HE
   rw [Qai (Qa HI).r l.length, Qai m1.r l.length, if_pos rfl, if_pos rfl]
   have q1 := (Qa HI).r.lt
   have q2 := m1.r.lt
   omega
  | co x0i =>
   obtain ⟨K', rfl, hd32, him, him2, hcall⟩ := hit
   have hN1 : Nxt l a1 (sgQ [46, 99, 111, 109, 112] :: (K' ++ (K2 ++ r))) := hnx
   obtain ⟨t, ht, hz, _⟩ := hN1.at
   have gu : (t.kind != 0) = true := by
    simp only [zk, sgQ, Prod.mk.injEq] at hz
    rw [hz.1]; rfl
   have HT := hide ht
   have HNX := hide (Ya hnx (show 0 < (sgQ [46, 99, 111, 109, 112] :: K').length by simp))
   have HYI := hide (Ya (show i1 + 1 ≤ m ∧ m ≤ 96 from ⟨him, him2⟩) (Ya hrest (Ya heqp (show its.foldl addI (addI q (.co x0i)) = x0 from hfold))))
   have HN4 := hide hN1
   clear ht hz hnx hrest heqp hfold hN1
   have SI := HI
   go_wp2_with fail
   refine hwl.mono ?_
   clear hwl
   rintro en wq ⟨rfl, rfl⟩
   have hcl := Qak (Qa SI).r (Qa HT)
   unfold tkA at hcl
   go_wp2_with fail
   refine hcl.mono ?_
   clear hcl
   rintro en w1 ⟨rfl, b1⟩
   have S1 := hide ((Qa SI).call (Kp.of_below b1) ((Qa SI).r.later b1))
   clear b1
   have hsg := Qbe (Qa S1).r (Qa HN4) [125]
   rw [show isSg (sgQ [46, 99, 111, 109, 112]) [125] = false by decide] at hsg
   go_wp2_with fail
   rename_i hK
   refine hK _ _ ?_
   clear hK
   go_wp2_with fail
   refine hsg.mono ?_
   clear hsg
   rintro en w2 ⟨rfl, b2⟩
   have S2 := hide ((Qa S1).call (Kp.of_below b2) ((Qa S1).r.later b2))
   clear b2
   obtain ⟨q_0, q_1, q_2, q_3, q_4, q_5, qf⟩ := cl6 (Qa S2).r.box
   obtain ⟨w3, hw3⟩ : ∃ w3, w3 = w2.setCell ⟨rb, 3, none⟩ (.int .i64 ((i1 : Int) + 1)) := ⟨_, rfl⟩
   have h3 : Rr rb g cap l w3 a1 d (i1 + 1) 0 0 := by rw [hw3]; exact (Qa S2).r.setI (i' := i1 + 1) (by omega)
   have G3 : PgB rb g w pb w3 (.slice e0 p.types.length c0) (.slice e1 p.decls.length c1) (.slice e2 p.comps.length c2) (.slice e3 p.inits.length c3) (.slice e4 p.clauses.length c4) p := by rw [hw3]; exact (Qa S2).b.call (Kp.set _ _ _ _)
   have HLN := hide (Qa S2).ln
   have HW3 := hide hw3
   have g96 : ¬ ((96 : Int) < (i1 : Int) + 1) := by omega
   have S3 : Hid (StP rb g cap l w d i a 0 pb w3 (.slice e0 p.types.length c0) (.slice e1 p.decls.length c1) (.slice e2 p.comps.length c2) (.slice e3 p.inits.length c3) (.slice e4 p.clauses.length c4) p a1 (i1 + 1) 0 0) := ⟨h3, G3, (Qa S2).le, by have := (Qa S2).ile; omega, by omega, fun _ => ⟨rfl, by omega⟩, by have := (Qa S2).ln; omega⟩
   have hcl := Qak (Qa S3).r (Qa HT)
   unfold tkA at hcl
   clear h3 G3 hw3
   go_wp2_with fail
   rw [← Qa HW3]
   clear HW3 q_0 q_1 q_2 q_3 q_4 q_5 qf
   refine hcl.mono ?_
   clear hcl
   rintro en w4 ⟨rfl, b4⟩
   have S4 := hide ((Qa S3).call (Kp.of_below b4) ((Qa S3).r.later b4))
   clear b4
   go_wp2_with fail
   rename_i hK
   refine hK _ _ ?_
   clear hK
   have hmy := Qch (s := [46, 116, 121, 112, 101]) (Qa S4).r (Qa HN4) (by decide)
   go_wp2_with fail
   refine hmy.mono ?_
   clear hmy
   rintro en w5 ⟨_, aN5, rfl, rfl, hN5, kN5, nN5⟩
   have eN : aN5 = a1 := Nat.le_antisymm (Nxt.le2 nN5 (Qa HN4) hN5.lt (Nat.le_refl _)) (Nxt.le2 (Qa HN4) nN5 (Qa S4).r.lt (Nat.le_refl _))
   rw [eN] at hN5 nN5
   clear eN
   have S5 := hide ((Qa S4).call kN5 hN5)
   have HN5 := hide nN5
   clear hN5 kN5 nN5
   have hmy := Qch (s := [46, 100, 101, 99, 108]) (Qa S5).r (Qa HN5) (by decide)
   go_wp2_with fail
   refine hmy.mono ?_
   clear hmy
   rintro en wD ⟨_, aN6, rfl, rfl, hN6, kN6, nN6⟩
   have eN : aN6 = a1 := Nat.le_antisymm (Nxt.le2 nN6 (Qa HN5) hN6.lt (Nat.le_refl _)) (Nxt.le2 (Qa HN5) nN6 (Qa S5).r.lt (Nat.le_refl _))
   rw [eN] at hN6 nN6
   clear eN
   have S6 := hide ((Qa S5).call kN6 hN6)
   have HN6 := hide nN6
   clear hN6 kN6 nN6
   have hsg := Qbe (Qa S6).r (Qa HN6) [46, 99, 111, 109, 112]
   rw [show isSg (sgQ [46, 99, 111, 109, 112]) [46, 99, 111, 109, 112] = true by decide] at hsg
   go_wp2_with fail
   refine hsg.mono ?_
   clear hsg
   rintro en w7 ⟨rfl, b7⟩
   have hen := Qex ((Qa S6).r.later b7) hd32
   have K7 := hide b7
   clear b7
   go_wp2_with fail
   refine hen.mono ?_
   clear hen
   rintro en w8 ⟨_, rfl, rfl, h8, k8⟩
   have htk := Qgj h8 (Qa HN6) (by decide)
   have K8 := hide (Ya k8 h8.lt)
   clear h8 k8
   go_wp2_with fail
   refine htk.mono ?_
   clear htk
   rintro en w9 ⟨_, a9, rfl, ⟨tp, rfl⟩, h9, k9, n9⟩
   obtain ⟨k8, l8⟩ := Qa K8
   have ea9 : a1 < a9 := Nxt.lt2 (Qa HN6) n9 l8 (by simp)
   have s6 := Qa S6
   have S9 : Hid (StP rb g cap l w (d + 1) i a 0 pb w9 (.slice e0 p.types.length c0) (.slice e1 p.decls.length c1) (.slice e2 p.comps.length c2) (.slice e3 p.inits.length c3) (.slice e4 p.clauses.length c4) p a9 (i1 + 1) 0 0) := ⟨h9, s6.b.call (((Kp.of_below (Qa K7)).trans k8).trans k9), by have := s6.le; omega, s6.ile, s6.i97, s6.y0, s6.ln⟩
   have HN9 := hide n9
   clear k8 l8 ea9 s6 h9 k9 n9
   have SD := hide ((Qa S9).call (W' := w9.drew) (Kp.of_below (Below.refl _ w9).drew) ((Qa S9).r.later (Below.refl _ w9).drew))
   have hcl := hcall _ _ (t.at_ : Int) (Qa SD).r (Qa HN9)
   go_wp2_with fail
   refine Qam (m := 8) (ml := mLRqp0) (fun ff w' => ff = false → w'.heap[pb]? = some (.cells #[.slice e0 p.types.length c0, .slice e1 p.decls.length c1, .slice e2 p.comps.length c2, .slice e3 p.inits.length c3, .slice e4 p.clauses.length c4] 28 (0, 0))) mixedO (by kernel_rfl) rfl (by rfl) (by kernel_rfl) (fun PP hPP => ?_)
   refine Qad rfl (by kernel_rfl) (fun _ _ _ => by go_simp <;> rfl) ?_
   refine Qaq (v := ?_) rfl (by kernel_rfl) (fun w' hw => ?_) ?_
   rotate_left
   · (obtain ⟨z_0, z_1, z_2, z_3, z_4, zf⟩ := cl5 (hw rfl); go_simp <;> rfl)
   refine Qad rfl (by kernel_rfl) (fun _ _ _ => by go_simp <;> rfl) ?_
   refine Qad rfl (by kernel_rfl) (fun _ _ _ => by go_simp <;> rfl) ?_
   refine Qaa rfl (fun _ => (Qa SD).b.p5.box) (fun K hK => ?_)
   go_simp
   refine hcl.mono ?_
   clear hcl
   rintro en w6 ⟨_, a6, rfl, ⟨x, ⟨ba, bn, bc, r0, s0, t0, r1, s1, t1, r2, s2, t2, r3, s3, t3, r4, s4, t4, rfl, hX⟩, heq⟩, h6, k6, n6⟩
   show K _ _
   refine hK _ _ ?_
   clear hK K
   have sD := Qa SD
   have hx1 := sD.b.x1
   have hr1 := sD.b.r1
   obtain ⟨ga, gc, w8, hrun, bx8, G9, R9⟩ := sD.b.more2 k6 h6 (x := x) (cs := [str x.1, .slice ba bn bc, .slice r0 s0 t0, .slice r1 s1 t1, .slice r2 s2 t2, .slice r3 s3 t3, .slice r4 s4 t4, .int .i64 x.2.2.2]) rfl (Qnt hX) hX (by have := sD.i97; have := sD.ln; simp only [lenP] at this; omega)
   obtain ⟨w7, hw7⟩ : ∃ w7, w7 = w6.alloc (.cells #[str x.1, .slice ba bn bc, .slice r0 s0 t0, .slice r1 s1 t1, .slice r2 s2 t2, .slice r3 s3 t3, .slice r4 s4 t4, .int .i64 x.2.2.2] 40) := ⟨_, rfl⟩
   have b7 : Below w6.heap.size w6 w7 := by rw [hw7]; exact (Below.refl _ w6).alloc (Nat.le_refl _) _
   have bx6 := k6.keep sD.b.p5.box (by omega)
   have HC6 := hide bx6
   have HC7 := hide ((b7.block _ (Qab bx6)).trans bx6)
   have HC8 := hide bx8
   obtain ⟨u_0, u_1, u_2, u_3, u_4, uf⟩ := cl5 bx8
   have hrun' : (Builtin.append_ #[24, 24] 24 #[.slice e2 p.comps.length c2, .slice (some ⟨w6.heap.size, 0, none⟩) 1 1]).run Try.prog w7 = .ok (.slice (some ⟨ga, 0, none⟩) (p.comps.length + 1) gc) w8 := by rw [hw7]; exact hrun
   have HW7 := hide hw7
   have hlt : a1 < a6 := Nxt.lt2 (Qa HNX).1 n6 (Qa HI).r.lt (by have q := (Qa HNX).2; simp only [List.length_append, List.length_cons] at q ⊢; omega)
   have hdd := R9.dd
   have hsb : IntKind.i64.wrap ((d : Int) + 1 - 1) = (d : Int) := by rw [show (d : Int) + 1 - 1 = (d : Int) by omega]; exact Qck d (by omega)
   obtain ⟨w9, hw9⟩ : ∃ w9, w9 = w8.setCell ⟨pb, 2, none⟩ (.slice (some ⟨ga, 0, none⟩) (p.comps.length + 1) gc) := ⟨_, rfl⟩
   rw [← hw9] at G9 R9
   obtain ⟨q_0, q_1, q_2, q_3, q_4, q_5, qf⟩ := cl6 R9.box
   have R10 : Rr rb g cap l (w9.setCell ⟨rb, 2, none⟩ (.int .i64 (d : Int))) a6 d m 0 0 := R9.setD (by omega)
   have m1 : StP rb g cap l w d i a 0 pb (w9.setCell ⟨rb, 2, none⟩ (.int .i64 (d : Int))) (.slice e0 p.types.length c0) (.slice e1 p.decls.length c1) (.slice (some ⟨ga, 0, none⟩) (p.comps.length + 1) gc) (.slice e3 p.inits.length c3) (.slice e4 p.clauses.length c4) (.mk p.types p.decls (p.comps ++ [x]) p.inits p.clauses) a6 m 0 0 := ⟨R10, G9.call (Kp.set _ _ _ _), by have := (Qa HI).le; omega, by have := (Qa HI).ile; have := (Qa HYI).1; omega, by have := (Qa HYI).1; omega, fun _ => ⟨rfl, (Qa HYI).1.2⟩, by have q1 := Qa HLN; have q2 := (Qa HYI).1; simp [lenP, Pg.types, Pg.decls, Pg.comps, Pg.inits, Pg.clauses] at q1 ⊢; omega⟩
   have HE := hide (Ya m1 (Ya hlt (Ya (Qa HYI).2.1 (Ya n6 (Ya (Qmn (Qa HYI).2.2.1 heq) (Qa HYI).2.2.2)))))
   have HW9 := hide hw9
   clear hw9 R10
   clear hX heq hlt n6 h6 k6 hrun hw7 b7 bx6 bx8 G9 R9 m1 sD hx1 hr1
   refine Qaa rfl (fun _ => Qa HC6) (fun K hK => ?_)
   go_simp
   rw [← Qa HW7]
   clear HW7
   refine hK _ _ ?_
   clear hK K
   refine Qaa rfl (fun _ => Qa HC7) (fun K hK => Qas rfl _ _ 24 rfl _ _ rfl rfl hrun' (hK _ _ ?_))
   clear hK K hrun'
   refine Qad rfl (by kernel_rfl) (fun _ _ _ => by go_simp <;> rfl) ?_
   refine Qaa rfl (fun _ => Qa HC8) (fun K hK => ?_)
   go_simp
   refine hK _ _ ?_
   clear hK K
   refine Qap (fun h => by cases h) (hPP _ _ ?_)
   clear hPP PP
   rw [← Qa HW9]
   clear HW9
   go_wp2_with fail
   go_roundw
   case rel =>
    obtain ⟨m1, m2, m3, m4, m5, m6⟩ := Qa HE
    exact ⟨(.mk p.types p.decls (p.comps ++ [x]) p.inits p.clauses), _, _, _, _, _, _, _, _, _, _, a6, m, _, its, K2, hide (by simpa [Pg.types, Pg.decls, Pg.comps, Pg.inits, Pg.clauses] using m1), hide ⟨m3, m4, m5, m6⟩⟩
   obtain ⟨m1, m2, _⟩ := Qa HE
   rw [Qai (Qa HI).r l.length, Qai m1.r l.length, if_pos rfl, if_pos rfl]
   have q1 := (Qa HI).r.lt
   have q2 := m1.r.lt
   omega
  | ini x0i =>
   obtain ⟨rfl, rfl, hw1, hw2⟩ := hit
   have hN1 : Nxt l a1 (sgQ [46, 105, 110, 105, 116] :: ([nmR x0i.name, sgQ [61], nmR x0i.comp] ++ (K2 ++ r))) := hnx
   obtain ⟨t, ht, hz, _⟩ := hN1.at
   have gu : (t.kind != 0) = true := by
    simp only [zk, sgQ, Prod.mk.injEq] at hz
    rw [hz.1]; rfl
   have HT := hide ht
   have HNX := hide (Ya hnx (show 0 < (sgQ [46, 105, 110, 105, 116] :: [nmR x0i.name, sgQ [61], nmR x0i.comp]).length by simp))
   have HYI := hide (Ya (show i1 + 1 ≤ 96 by omega) (Ya hrest (Ya heqp (show its.foldl addI (addI q (.ini x0i)) = x0 from hfold))))
   have HN4 := hide hN1
   clear ht hz hnx hrest heqp hfold hN1
   have SI := HI
   go_wp2_with fail
   refine hwl.mono ?_
   clear hwl
   rintro en wq ⟨rfl, rfl⟩
   have hcl := Qak (Qa SI).r (Qa HT)
   unfold tkA at hcl
   go_wp2_with fail
   refine hcl.mono ?_
   clear hcl
   rintro en w1 ⟨rfl, b1⟩
   have S1 := hide ((Qa SI).call (Kp.of_below b1) ((Qa SI).r.later b1))
   clear b1
   have hsg := Qbe (Qa S1).r (Qa HN4) [125]
   rw [show isSg (sgQ [46, 105, 110, 105, 116]) [125] = false by decide] at hsg
   go_wp2_with fail
   rename_i hK
   refine hK _ _ ?_
   clear hK
   go_wp2_with fail
   refine hsg.mono ?_
   clear hsg
   rintro en w2 ⟨rfl, b2⟩
   have S2 := hide ((Qa S1).call (Kp.of_below b2) ((Qa S1).r.later b2))
   clear b2
   obtain ⟨q_0, q_1, q_2, q_3, q_4, q_5, qf⟩ := cl6 (Qa S2).r.box
   obtain ⟨w3, hw3⟩ : ∃ w3, w3 = w2.setCell ⟨rb, 3, none⟩ (.int .i64 ((i1 : Int) + 1)) := ⟨_, rfl⟩
   have h3 : Rr rb g cap l w3 a1 d (i1 + 1) 0 0 := by rw [hw3]; exact (Qa S2).r.setI (i' := i1 + 1) (by omega)
   have G3 : PgB rb g w pb w3 (.slice e0 p.types.length c0) (.slice e1 p.decls.length c1) (.slice e2 p.comps.length c2) (.slice e3 p.inits.length c3) (.slice e4 p.clauses.length c4) p := by rw [hw3]; exact (Qa S2).b.call (Kp.set _ _ _ _)
   have HLN := hide (Qa S2).ln
   have HW3 := hide hw3
   have g96 : ¬ ((96 : Int) < (i1 : Int) + 1) := by omega
   have S3 : Hid (StP rb g cap l w d i a 0 pb w3 (.slice e0 p.types.length c0) (.slice e1 p.decls.length c1) (.slice e2 p.comps.length c2) (.slice e3 p.inits.length c3) (.slice e4 p.clauses.length c4) p a1 (i1 + 1) 0 0) := ⟨h3, G3, (Qa S2).le, by have := (Qa S2).ile; omega, by omega, fun _ => ⟨rfl, by omega⟩, by have := (Qa S2).ln; omega⟩
   have hcl := Qak (Qa S3).r (Qa HT)
   unfold tkA at hcl
   clear h3 G3 hw3
   go_wp2_with fail
   rw [← Qa HW3]
   clear HW3 q_0 q_1 q_2 q_3 q_4 q_5 qf
   refine hcl.mono ?_
   clear hcl
   rintro en w4 ⟨rfl, b4⟩
   have S4 := hide ((Qa S3).call (Kp.of_below b4) ((Qa S3).r.later b4))
   clear b4
   go_wp2_with fail
   rename_i hK
   refine hK _ _ ?_
   clear hK
   have hmy := Qch (s := [46, 116, 121, 112, 101]) (Qa S4).r (Qa HN4) (by decide)
   go_wp2_with fail
   refine hmy.mono ?_
   clear hmy
   rintro en w5 ⟨_, aN5, rfl, rfl, hN5, kN5, nN5⟩
   have eN : aN5 = a1 := Nat.le_antisymm (Nxt.le2 nN5 (Qa HN4) hN5.lt (Nat.le_refl _)) (Nxt.le2 (Qa HN4) nN5 (Qa S4).r.lt (Nat.le_refl _))
   rw [eN] at hN5 nN5
   clear eN
   have S5 := hide ((Qa S4).call kN5 hN5)
   have HN5 := hide nN5
   clear hN5 kN5 nN5
   have hmy := Qch (s := [46, 100, 101, 99, 108]) (Qa S5).r (Qa HN5) (by decide)
   go_wp2_with fail
   refine hmy.mono ?_
   clear hmy
   rintro en wD ⟨_, aN6, rfl, rfl, hN6, kN6, nN6⟩
   have eN : aN6 = a1 := Nat.le_antisymm (Nxt.le2 nN6 (Qa HN5) hN6.lt (Nat.le_refl _)) (Nxt.le2 (Qa HN5) nN6 (Qa S5).r.lt (Nat.le_refl _))
   rw [eN] at hN6 nN6
   clear eN
   have S6 := hide ((Qa S5).call kN6 hN6)
   have HN6 := hide nN6
   clear hN6 kN6 nN6
   have hsg := Qbe (Qa S6).r (Qa HN6) [46, 99, 111, 109, 112]
   rw [show isSg (sgQ [46, 105, 110, 105, 116]) [46, 99, 111, 109, 112] = false by decide] at hsg
   go_wp2_with fail
   refine hsg.mono ?_
   clear hsg
   rintro en w7 ⟨rfl, b7⟩
   have S7 := hide ((Qa S6).call (Kp.of_below b7) ((Qa S6).r.later b7))
   have HN7 := HN6
   clear b7
   have hmy := Qcu (Qa S7).r (Qa HN7)
   go_wp2_with fail
   refine hmy.mono ?_
   clear hmy
   rintro en wL ⟨_, aN, rfl, rfl, hN8, kN8, nN8⟩
   have eN : aN = a1 + 1 := by
    have q1 := (Qa HN7).len
    have q2 := nN8.len
    have q3 := (Qa S7).r.lt
    have q4 := hN8.lt
    simp only [List.length_cons] at q1
    omega
   rw [eN] at hN8 nN8
   clear eN
   have S8 := hide ((Qa S7).mayT kN8 hN8)
   have HN8 := hide nN8
   clear hN8 kN8 nN8
   have hwd := Qen (Qa S8).r (Qa HN8) hw1 hw2
   go_wp2_with fail
   refine hwd.mono ?_
   clear hwd
   rintro en w9 ⟨_, a9, rfl, rfl, h9, k9, n9⟩
   obtain ⟨ib, hib⟩ : ∃ ib, w9.heap.size = ib := ⟨_, rfl⟩
   obtain ⟨w10, hw10⟩ : ∃ w10, w10 = w9.alloc (.cells #[str x0i.name, .string ⟨#[]⟩, .int .i64 (t.at_ : Int)] 45) := ⟨_, rfl⟩
   have b10 : Below w9.heap.size w9 w10 := by rw [hw10]; exact (Below.refl _ w9).alloc (Nat.le_refl _) _
   have n10 : w10.heap[ib]? = some (.cells #[str x0i.name, .string ⟨#[]⟩, .int .i64 (t.at_ : Int)] 45 (0, 0)) := by rw [hw10, ← hib]; exact heap_alloc_new w9 _
   have hms := Qcp (h9.later b10) n9
   have K10 := hide (Ya (k9.trans (Kp.of_below b10)) (Ya n10 (show wL.heap.size ≤ ib by have := k9.size; omega)))
   have HW10 := hide (Ya hw10 hib)
   clear n9 h9 k9 hib hw10 b10 n10
   go_wp2_with fail
   rw [← (Qa HW10).1, (Qa HW10).2]
   clear HW10
   refine hms.mono ?_
   clear hms
   rintro en w11 ⟨_, a11, rfl, rfl, h11, k11, n11⟩
   have hnm := Qgi h11 n11
   have K11 := hide k11
   clear n11 h11 k11
   go_wp2_with fail
   refine hnm.mono ?_
   clear hnm
   rintro en w12 ⟨_, a12, rfl, rfl, h12, k12, n12x⟩
   obtain ⟨k10, n10, hib⟩ := Qa K10
   have k11 := Qa K11
   have s8 := Qa S8
   have hx1 := s8.b.x1
   have hr1 := s8.b.r1
   have hg1 := s8.b.g1
   have hpl := Qab s8.b.p5.box
   have n12 := k12.keep (k11.keep n10 (by omega)) (by omega)
   obtain ⟨w13, hw13⟩ : ∃ w13, w13 = w12.setCell ⟨ib, 1, none⟩ (str x0i.comp) := ⟨_, rfl⟩
   have n13 : w13.heap[ib]? = some (.cells #[str x0i.name, str x0i.comp, .int .i64 (t.at_ : Int)] 45 (0, 0)) := by rw [hw13]; exact (Qah n12 1 _).trans rfl
   have h13 : Rr rb g cap l w13 a12 d (i1 + 1) 0 0 := by rw [hw13]; exact h12.atBox ⟨by omega, by omega⟩ 1 _
   have s13 : w13.heap.size = w12.heap.size := by rw [hw13]; simp
   have k13 : Kp rb wL w13 := by rw [hw13]; exact ((k10.trans k11).trans k12).set2 hib
   have bx13 := k13.keep s8.b.p5.box (by omega)
   obtain ⟨ga, gc, w14, hrun, bx14, G15, R15⟩ := s8.b.more3 k13 h13 (x := ⟨x0i.name, x0i.comp, t.at_⟩) (cs := [str x0i.name, str x0i.comp, .int .i64 (t.at_ : Int)]) rfl (by simp [Value.oneCell', str]) rfl (by have := s8.i97; have := s8.ln; simp only [lenP] at this; omega)
   obtain ⟨x_0, x_1, x_2, x_3, x_4, xf⟩ := cl5 bx13
   obtain ⟨u_0, u_1, u_2, uf⟩ := cl3 n12
   obtain ⟨v_0, v_1, v_2, vf⟩ := cl3 n13
   obtain ⟨z_0, z_1, z_2, z_3, z_4, zf⟩ := cl5 bx14
   have hlt : a1 < a12 := Nxt.lt2 (Qa HNX).1 n12x (Qa HI).r.lt (by simp; omega)
   have m1 : StP rb g cap l w d i a 0 pb (w14.setCell ⟨pb, 3, none⟩ (.slice (some ⟨ga, 0, none⟩) (p.inits.length + 1) gc)) (.slice e0 p.types.length c0) (.slice e1 p.decls.length c1) (.slice e2 p.comps.length c2) (.slice (some ⟨ga, 0, none⟩) (p.inits.length + 1) gc) (.slice e4 p.clauses.length c4) (.mk p.types p.decls p.comps (p.inits ++ [⟨x0i.name, x0i.comp, t.at_⟩]) p.clauses) a12 (i1 + 1) 0 0 := ⟨R15, G15, by have := (Qa HI).le; omega, by have := s8.ile; omega, s8.i97, fun _ => ⟨rfl, (Qa HYI).1⟩, by have := Qa HLN; simp [lenP, Pg.types, Pg.decls, Pg.comps, Pg.inits, Pg.clauses] at this ⊢; omega⟩
   have HE := hide (Ya m1 (Ya hlt (Ya (Qa HYI).2.1 (Ya n12x (Ya (Qmo (Qa HYI).2.2.1 (x := ⟨x0i.name, x0i.comp, t.at_⟩) (y := x0i) (by simp [eqIn])) (Qa HYI).2.2.2)))))
   rw [s13] at hrun
   rw [hw13] at hrun x_3 v_0 v_1 v_2
   have HRUN := hide hrun
   clear k10 n10 hib k11 s8 hx1 hr1 hg1 hpl n12 hw13 n13 h13 s13 k13 bx13 hrun bx14 G15 R15 m1 h12 k12 n12x hlt x_0 x_1 x_2 x_4 xf
   go_wp2_with (at_builtin; refine Qaj _ rfl _ _ 25 rfl _ _ rfl rfl _ _ (Qa HRUN) ?_; clear HRUN)
   go_roundw
   case rel =>
    obtain ⟨m1, m2, m3, m4, m5, m6⟩ := Qa HE
    exact ⟨(.mk p.types p.decls p.comps (p.inits ++ [⟨x0i.name, x0i.comp, t.at_⟩]) p.clauses), _, _, _, _, _, _, _, _, _, _, a12, (i1 + 1), _, its, K2, hide (by simpa [Pg.types, Pg.decls, Pg.comps, Pg.inits, Pg.clauses] using m1), hide ⟨m3, m4, m5, m6⟩⟩
   obtain ⟨m1, m2, _⟩ := Qa HE
   rw [Qai (Qa HI).r l.length, Qai m1.r l.length, if_pos rfl, if_pos rfl]
   have q1 := (Qa HI).r.lt
   have q2 := m1.r.lt
   omega
  | cl x0i =>
   obtain ⟨rfl, ⟨s, K', rfl⟩, hcall⟩ := hit
   have hN1 : Nxt l a1 (nmR s :: (K' ++ (K2 ++ r))) := hnx
   obtain ⟨t, ht, hz, _⟩ := hN1.at
   have gu : (t.kind != 0) = true := by
    simp only [zk, nmR, Prod.mk.injEq] at hz
    rw [hz.1]; rfl
   have HT := hide ht
   have HNX := hide (Ya hnx (show 0 < (nmR s :: K').length by simp))
   have HYI := hide (Ya (show i1 + 1 ≤ 96 by omega) (Ya hrest (Ya heqp (show its.foldl addI (addI q (.cl x0i)) = x0 from hfold))))
   have HN4 := hide hN1
   clear ht hz hnx hrest heqp hfold hN1
   have SI := HI
   go_wp2_with fail
   refine hwl.mono ?_
   clear hwl
   rintro en wq ⟨rfl, rfl⟩
   have hcl := Qak (Qa SI).r (Qa HT)
   unfold tkA at hcl
   go_wp2_with fail
   refine hcl.mono ?_
   clear hcl
   rintro en w1 ⟨rfl, b1⟩
   have S1 := hide ((Qa SI).call (Kp.of_below b1) ((Qa SI).r.later b1))
   clear b1
   have hsg := Qbe (Qa S1).r (Qa HN4) [125]
   rw [show isSg (nmR s) [125] = false from Qdx _ _] at hsg
   go_wp2_with fail
   rename_i hK
   refine hK _ _ ?_
   clear hK
   go_wp2_with fail
   refine hsg.mono ?_
   clear hsg
   rintro en w2 ⟨rfl, b2⟩
   have S2 := hide ((Qa S1).call (Kp.of_below b2) ((Qa S1).r.later b2))
   clear b2
   obtain ⟨q_0, q_1, q_2, q_3, q_4, q_5, qf⟩ := cl6 (Qa S2).r.box
   obtain ⟨w3, hw3⟩ : ∃ w3, w3 = w2.setCell ⟨rb, 3, none⟩ (.int .i64 ((i1 : Int) + 1)) := ⟨_, rfl⟩
   have h3 : Rr rb g cap l w3 a1 d (i1 + 1) 0 0 := by rw [hw3]; exact (Qa S2).r.setI (i' := i1 + 1) (by omega)
   have G3 : PgB rb g w pb w3 (.slice e0 p.types.length c0) (.slice e1 p.decls.length c1) (.slice e2 p.comps.length c2) (.slice e3 p.inits.length c3) (.slice e4 p.clauses.length c4) p := by rw [hw3]; exact (Qa S2).b.call (Kp.set _ _ _ _)
   have HLN := hide (Qa S2).ln
   have HW3 := hide hw3
   have g96 : ¬ ((96 : Int) < (i1 : Int) + 1) := by omega
   have S3 : Hid (StP rb g cap l w d i a 0 pb w3 (.slice e0 p.types.length c0) (.slice e1 p.decls.length c1) (.slice e2 p.comps.length c2) (.slice e3 p.inits.length c3) (.slice e4 p.clauses.length c4) p a1 (i1 + 1) 0 0) := ⟨h3, G3, (Qa S2).le, by have := (Qa S2).ile; omega, by omega, fun _ => ⟨rfl, by omega⟩, by have := (Qa S2).ln; omega⟩
   have hcl := Qak (Qa S3).r (Qa HT)
   unfold tkA at hcl
   clear h3 G3 hw3
   go_wp2_with fail
   rw [← Qa HW3]
   clear HW3 q_0 q_1 q_2 q_3 q_4 q_5 qf
   refine hcl.mono ?_
   clear hcl
   rintro en w4 ⟨rfl, b4⟩
   have S4 := hide ((Qa S3).call (Kp.of_below b4) ((Qa S3).r.later b4))
   clear b4
   go_wp2_with fail
   rename_i hK
   refine hK _ _ ?_
   clear hK
   have hmy := Qch (s := [46, 116, 121, 112, 101]) (Qa S4).r (Qa HN4) (Qdx _ _)
   go_wp2_with fail
   refine hmy.mono ?_
   clear hmy
   rintro en w5 ⟨_, aN5, rfl, rfl, hN5, kN5, nN5⟩
   have eN : aN5 = a1 := Nat.le_antisymm (Nxt.le2 nN5 (Qa HN4) hN5.lt (Nat.le_refl _)) (Nxt.le2 (Qa HN4) nN5 (Qa S4).r.lt (Nat.le_refl _))
   rw [eN] at hN5 nN5
   clear eN
   have S5 := hide ((Qa S4).call kN5 hN5)
   have HN5 := hide nN5
   clear hN5 kN5 nN5
   have hmy := Qch (s := [46, 100, 101, 99, 108]) (Qa S5).r (Qa HN5) (Qdx _ _)
   go_wp2_with fail
   refine hmy.mono ?_
   clear hmy
   rintro en wD ⟨_, aN6, rfl, rfl, hN6, kN6, nN6⟩
   have eN : aN6 = a1 := Nat.le_antisymm (Nxt.le2 nN6 (Qa HN5) hN6.lt (Nat.le_refl _)) (Nxt.le2 (Qa HN5) nN6 (Qa S5).r.lt (Nat.le_refl _))
   rw [eN] at hN6 nN6
   clear eN
   have S6 := hide ((Qa S5).call kN6 hN6)
   have HN6 := hide nN6
   clear hN6 kN6 nN6
   have hsg := Qbe (Qa S6).r (Qa HN6) [46, 99, 111, 109, 112]
   rw [show isSg (nmR s) [46, 99, 111, 109, 112] = false from Qdx _ _] at hsg
   go_wp2_with fail
   refine hsg.mono ?_
   clear hsg
   rintro en w7 ⟨rfl, b7⟩
   have S7 := hide ((Qa S6).call (Kp.of_below b7) ((Qa S6).r.later b7))
   have HN7 := HN6
   clear b7
   have hmy := Qch (s := [46, 105, 110, 105, 116]) (Qa S7).r (Qa HN7) (Qdx _ _)
   go_wp2_with fail
   refine hmy.mono ?_
   clear hmy
   rintro en wL ⟨_, aN8, rfl, rfl, hN8, kN8, nN8⟩
   have eN : aN8 = a1 := Nat.le_antisymm (Nxt.le2 nN8 (Qa HN7) hN8.lt (Nat.le_refl _)) (Nxt.le2 (Qa HN7) nN8 (Qa S7).r.lt (Nat.le_refl _))
   rw [eN] at hN8 nN8
   clear eN
   have S8 := hide ((Qa S7).call kN8 hN8)
   have HN8 := hide nN8
   clear hN8 kN8 nN8
   have SD := hide ((Qa S8).call (W' := wL.drew) (Kp.of_below (Below.refl _ wL).drew) ((Qa S8).r.later (Below.refl _ wL).drew))
   have hcl := hcall _ _ (Qa SD).r (Qa HN8)
   go_wp2_with fail
   refine Qam (m := 7) (ml := [(0, 1), (1, 2), (2, 1), (3, 0), (4, 0), (5, 0), (6, 1), (7, 0)]) (fun ff w' => ff = false → w'.heap[pb]? = some (.cells #[.slice e0 p.types.length c0, .slice e1 p.decls.length c1, .slice e2 p.comps.length c2, .slice e3 p.inits.length c3, .slice e4 p.clauses.length c4] 28 (0, 0))) mixedO (by kernel_rfl) rfl (by rfl) (by kernel_rfl) (fun PP hPP => ?_)
   refine Qad rfl (by kernel_rfl) (fun _ _ _ => by go_simp <;> rfl) ?_
   refine Qaq (v := ?_) rfl (by kernel_rfl) (fun w' hw => ?_) ?_
   rotate_left
   · (obtain ⟨z_0, z_1, z_2, z_3, z_4, zf⟩ := cl5 (hw rfl); go_simp <;> rfl)
   refine Qad rfl (by kernel_rfl) (fun _ _ _ => by go_simp <;> rfl) ?_
   refine Qaa rfl (fun _ => (Qa SD).b.p5.box) (fun K hK => ?_)
   go_simp
   refine hcl.mono ?_
   clear hcl
   rintro en w6 ⟨_, a6, rfl, ⟨x, ⟨aa, an, ac, ba, bn, bc, rfl, hX⟩, heq⟩, h6, k6, n6⟩
   show K _ _
   refine hK _ _ ?_
   clear hK K
   have sD := Qa SD
   have hx1 := sD.b.x1
   have hr1 := sD.b.r1
   obtain ⟨ga, gc, w8, hrun, bx8, G9, R9⟩ := sD.b.more4 k6 h6 (x := x) (cs := [str x.head.rel, .slice aa an ac, .int .i64 x.head.at_, .slice ba bn bc, .int .i64 x.at_]) rfl (by simp [Value.oneCell', str]) ⟨_, _, _, _, _, _, rfl, hX.1, hX.2⟩ (by have := sD.i97; have := sD.ln; simp only [lenP] at this; omega)
   obtain ⟨w7, hw7⟩ : ∃ w7, w7 = w6.alloc (.cells #[str x.head.rel, .slice aa an ac, .int .i64 x.head.at_, .slice ba bn bc, .int .i64 x.at_] 78) := ⟨_, rfl⟩
   have b7 : Below w6.heap.size w6 w7 := by rw [hw7]; exact (Below.refl _ w6).alloc (Nat.le_refl _) _
   have bx6 := k6.keep sD.b.p5.box (by omega)
   have HC6 := hide bx6
   have HC7 := hide ((b7.block _ (Qab bx6)).trans bx6)
   have HC8 := hide bx8
   obtain ⟨u_0, u_1, u_2, u_3, u_4, uf⟩ := cl5 bx8
   have hrun' : (Builtin.append_ #[26, 26] 26 #[.slice e4 p.clauses.length c4, .slice (some ⟨w6.heap.size, 0, none⟩) 1 1]).run Try.prog w7 = .ok (.slice (some ⟨ga, 0, none⟩) (p.clauses.length + 1) gc) w8 := by rw [hw7]; exact hrun
   have HW7 := hide hw7
   have hlt : a1 < a6 := Nxt.lt2 (Qa HNX).1 n6 (Qa HI).r.lt (by have q := (Qa HNX).2; simp only [List.length_append, List.length_cons] at q ⊢; omega)
   have m1 : StP rb g cap l w d i a 0 pb (w8.setCell ⟨pb, 4, none⟩ (.slice (some ⟨ga, 0, none⟩) (p.clauses.length + 1) gc)) (.slice e0 p.types.length c0) (.slice e1 p.decls.length c1) (.slice e2 p.comps.length c2) (.slice e3 p.inits.length c3) (.slice (some ⟨ga, 0, none⟩) (p.clauses.length + 1) gc) (.mk p.types p.decls p.comps p.inits (p.clauses ++ [x])) a6 (i1 + 1) 0 0 := ⟨R9, G9, by have := (Qa HI).le; omega, by have := sD.ile; omega, sD.i97, fun _ => ⟨rfl, (Qa HYI).1⟩, by have := Qa HLN; simp [lenP, Pg.types, Pg.decls, Pg.comps, Pg.inits, Pg.clauses] at this ⊢; omega⟩
   have HE := hide (Ya m1 (Ya hlt (Ya (Qa HYI).2.1 (Ya n6 (Ya (Qmp (Qa HYI).2.2.1 heq) (Qa HYI).2.2.2)))))
   clear hX heq hlt n6 h6 k6 hrun hw7 b7 bx6 bx8 G9 R9 m1 sD hx1 hr1
   refine Qaa rfl (fun _ => Qa HC6) (fun K hK => ?_)
   go_simp
   rw [← Qa HW7]
   clear HW7
   refine hK _ _ ?_
   clear hK K
   refine Qaa rfl (fun _ => Qa HC7) (fun K hK => Qas rfl _ _ 26 rfl _ _ rfl rfl hrun' (hK _ _ ?_))
   clear hK K hrun'
   refine Qad rfl (by kernel_rfl) (fun _ _ _ => by go_simp <;> rfl) ?_
   refine Qaa rfl (fun _ => Qa HC8) (fun K hK => ?_)
   go_simp
   refine hK _ _ ?_
   clear hK K
   refine Qap (fun h => by cases h) (hPP _ _ ?_)
   clear hPP PP
   go_wp2_with fail
   go_roundw
   case rel =>
    obtain ⟨m1, m2, m3, m4, m5, m6⟩ := Qa HE
    exact ⟨(.mk p.types p.decls p.comps p.inits (p.clauses ++ [x])), _, _, _, _, _, _, _, _, _, _, a6, (i1 + 1), _, its, K2, hide (by simpa [Pg.types, Pg.decls, Pg.comps, Pg.inits, Pg.clauses] using m1), hide ⟨m3, m4, m5, m6⟩⟩
   obtain ⟨m1, m2, _⟩ := Qa HE
   rw [Qai (Qa HI).r l.length, Qai m1.r l.length, if_pos rfl, if_pos rfl]
   have q1 := (Qa HI).r.lt
   have q2 := m1.r.lt
   omega
end
end Go.Proofs.Ytfmbpaoapjmdnaa
