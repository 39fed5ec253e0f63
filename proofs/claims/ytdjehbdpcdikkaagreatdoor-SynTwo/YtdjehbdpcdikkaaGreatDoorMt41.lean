/- The document's Same of any two programs, places aside. Walk of the law on two texts, one behind the other. -/
import Derived.Test.YtdjehbdpcdikkaaGreatDoorMt40
import Derived.Test.YtdjehbdpcdikkaaGreatDoorMt30
import Derived.Test.YtdjehbdpcdikkaaGreatDoorMt34
namespace Go.Proofs.YtdjehbdpcdikkaaGreatDoor
open Go.RowKit Go.Maps

set_option maxRecDepth 100000 in
/-- Two programs. -/
theorem rsamePg_any (p : Pg) : ∀ (q : Pg) (S : Nat → Prop) (w : World) (c0 c1 c2 c3 c4 d0 d1 d2 d3 d4 : Value), PgS S w [c0, c1, c2, c3, c4] p → PgS S w [d0, d1, d2, d3, d4] q →
  Calls Tryz.prog 10 #[.agg #[c0, c1, c2, c3, c4], .agg #[d0, d1, d2, d3, d4], .bool false] w fun en w' => en = .returned (.bool (eqPg p q)) ∧ Below w.heap.size w w' :=
 match p with
 | .mk ts ds cs is ls => fun q S w c0 c1 c2 c3 c4 d0 d1 d2 d3 d4 hx hy => by
  obtain ⟨v0, v1, v2, v3, v4, ex, h0, h1, h2, h3, h4⟩ := hx.cells
  obtain ⟨u0, u1, u2, u3, u4, ey, g0, g1, g2, g3, g4⟩ := hy.cells
  obtain ⟨rfl, rfl, rfl, rfl, rfl⟩ := list5 ex
  obtain ⟨rfl, rfl, rfl, rfl, rfl⟩ := list5 ey
  obtain ⟨_, _, rfl⟩ := h0.sl
  obtain ⟨_, _, rfl⟩ := h1.sl
  obtain ⟨_, _, rfl⟩ := h2.sl
  obtain ⟨_, _, rfl⟩ := h3.sl
  obtain ⟨_, _, rfl⟩ := h4.sl
  obtain ⟨_, _, rfl⟩ := g0.sl
  obtain ⟨_, _, rfl⟩ := g1.sl
  obtain ⟨_, _, rfl⟩ := g2.sl
  obtain ⟨_, _, rfl⟩ := g3.sl
  obtain ⟨_, _, rfl⟩ := g4.sl
  refine rSame_of h0 h1 h3 h4 g0 g1 g3 g4 (fun w' hb => ?_)
  refine (rcomps_of (h2.later pco_ok hb) (g2.later pco_ok hb) (fun j x1 y1 hx1 hy1 w1 e0 e1 e2 e3 e4 f0 f1 f2 f3 f4 _ a1 a2 => ?_)).mono (fun _ _ h => h)
  have hm : x1 ∈ cs := List.mem_of_getElem? hx1
  exact rsamePg_any x1.2.2.1 y1.2.2.1 S w1 e0 e1 e2 e3 e4 f0 f1 f2 f3 f4 a1 a2
termination_by SizeOf.sizeOf p
decreasing_by
 have h1 := List.sizeOf_lt_of_mem hm
 have h2 : SizeOf.sizeOf x1.2.2.1 < SizeOf.sizeOf x1 := by
  obtain ⟨a, b, c, d⟩ := x1
  simp only [Prod.mk.sizeOf_spec]
  omega
 simp only [Pg.mk.sizeOf_spec]
 omega
end Go.Proofs.YtdjehbdpcdikkaaGreatDoor

namespace Go.Proofs.YtdjehbdpcdikkaaGreatDoor
open Go.RowKit Go.Maps

theorem progL_few {e d : Nat} {top : Bool} {C : Pr (Txt × List Txt × Pg × Int)} (hC : GrS C) : ∀ (f : Nat) (p : Pg) (l : List Tok) (i : Nat) (q : Pg) (l' : List Tok) (i' : Nat), progL e top d C f p l i = .ok q l' i' → i ≤ 96 → Few p i → Few q i' ∧ i' ≤ 96
 | 0, p, l, i, q, l', i', h, hi, hf => by cases h; exact ⟨hf, hi⟩
 | f + 1, p, l, i, q, l', i', h, hi, hf => by
  unfold progL at h
  split at h
  · cases h; exact ⟨hf, hi⟩
  ·
   obtain ⟨a, l1, i1, h1, h2⟩ := bind_ok h
   obtain ⟨_, _, g3, g4⟩ := item_gr hC h1
   exact progL_few hC f _ _ _ _ _ _ h2 (g3 hi) (g4 hf)
theorem parse_few {s : Txt} {p : Pg} {l : List Tok} {i : Nat} (h : parseP s = .ok p l i) : Few p 96 := by
 unfold parseP at h
 cases hl : lexP s with
 | bad w a => rw [hl] at h; cases h
 | ok toks =>
  rw [hl] at h
  have h : progD s.length 32 true toks 0 = .ok p l i := h
  rw [progD_eq] at h
  obtain ⟨⟨f0, f1, f2, f3, f4⟩, hi⟩ := progL_few (compC_gr 32) _ _ _ _ _ _ _ h (by omega) ⟨Nat.le_refl _, Nat.le_refl _, Nat.le_refl _, Nat.le_refl _, Nat.le_refl _⟩
  exact ⟨by omega, by omega, by omega, by omega, by omega⟩
/-- What Parse answers, in one form. -/
def PsG (s : ByteArray) (w : World) (en : Ending) (w' : World) : Prop := ∃ x0a x0n x0c x1a x1n x1c x2a x2n x2c x3a x3n x3c x4a x4n x4c why at_, en = .returned (.tuple #[.agg #[.slice x0a x0n x0c, .slice x1a x1n x1c, .slice x2a x2n x2c, .slice x3a x3n x3c, .slice x4a x4n x4c], .agg #[.int .i64 why, .int .i64 at_]]) ∧ Below w.heap.size w w' ∧
 (((∃ l, parseP s.data.toList = .bad why at_ l) ∧ why ≠ 0) ∨ ∃ p l i, parseP s.data.toList = .ok p l i ∧ why = 0 ∧ at_ = 0 ∧ PgS (fun _ => True) w' [.slice x0a x0n x0c, .slice x1a x1n x1c, .slice x2a x2n x2c, .slice x3a x3n x3c, .slice x4a x4n x4c] p)
theorem parse_gen (s : ByteArray) (hs : s.size ≤ 281474976710656) (w : World) (hE : Env w) : Calls Tryz.prog 12 #[.string s] w fun en w' => PsG s w en w' := by
 refine (parse_any s hs w hE).mono fun en w' h => ?_
 cases hq : parseP s.data.toList with
 | bad why at_ l =>
  rw [hq] at h
  obtain ⟨rfl, b⟩ := h
  exact ⟨_, _, _, _, _, _, _, _, _, _, _, _, _, _, _, why, at_, rfl, b, .inl ⟨⟨l, hq⟩, parse_why hq⟩⟩
 | ok p l i =>
  rw [hq] at h
  obtain ⟨_, rfl, ⟨x0a, x0n, x0c, x1a, x1n, x1c, x2a, x2n, x2c, x3a, x3n, x3c, x4a, x4n, x4c, rfl, hP⟩, b⟩ := h
  exact ⟨_, _, _, _, _, _, _, _, _, _, _, _, _, _, _, 0, 0, rfl, b, .inr ⟨p, l, i, hq, rfl, rfl, pgS_ok.mono _ _ _ _ _ hP (fun _ _ _ => trivial)⟩⟩

set_option maxRecDepth 100000 in
set_option maxHeartbeats 32000000 in
theorem two9_walk (s u : ByteArray) (hs : s.size ≤ 140737488355327) (hu : u.size ≤ 140737488355327) (w : World) (hE : Env w) : Calls Tryz.prog 5 #[.string s, .string u] w fun e w' => e = .returned (.bool true) ∧ Below w.heap.size w w' := by
 have hp1 := parse_gen s (by omega) w hE
 have hcat1 : ∀ w : World, (Op.stringOp .add s ⟨#[10]⟩).run Tryz.prog w = .ok (.string (s ++ ⟨#[10]⟩)) w := fun w => run_string_add_sum w s _ (by have : (⟨#[10]⟩ : ByteArray).size = 1 := rfl; omega)
 have hsz1 : (s ++ (⟨#[10]⟩ : ByteArray)).size = s.size + 1 := by rw [ByteArray.size_append]; rfl
 have hcat2 : ∀ w : World, (Op.stringOp .add (s ++ (⟨#[10]⟩ : ByteArray)) u).run Tryz.prog w = .ok (.string ((s ++ ⟨#[10]⟩) ++ u)) w := fun w => run_string_add_sum w _ u (by omega)
 obtain ⟨t1, ht1⟩ : ∃ t1, s ++ (⟨#[10]⟩ : ByteArray) = t1 := ⟨_, rfl⟩
 obtain ⟨t2, ht2⟩ : ∃ t2, t1 ++ u = t2 := ⟨_, rfl⟩
 have htl : t2.data.toList = s.data.toList ++ 10 :: u.data.toList := by rw [← ht2, ← ht1]; simp [ByteArray.data_append]
 have hts : t2.size ≤ 281474976710656 := by rw [← ht2, ByteArray.size_append, ← ht1]; omega
 rw [ht1] at hcat1 hcat2
 rw [ht2] at hcat2
 have HE := hide hE
 have HT := hide htl
 clear hE htl ht1 ht2 hsz1
 go_enter Tryz.func5, Tryz.ntmps5
 go_wp2_with fail
 refine hp1.mono ?_
 clear hp1
 rintro e v1 ⟨x0a, x0n, x0c, x1a, x1n, x1c, x2a, x2n, x2c, x3a, x3n, x3c, x4a, x4n, x4c, why1, at1, rfl, b1, hR1⟩
 obtain ⟨W1, hW1⟩ : ∃ W1, W1 = (v1.alloc (.cells #[.slice x0a x0n x0c, .slice x1a x1n x1c, .slice x2a x2n x2c, .slice x3a x3n x3c, .slice x4a x4n x4c] 28)).alloc (.cells #[.int .i64 why1, .int .i64 at1] 31) := ⟨_, rfl⟩
 have c1 : Below v1.heap.size v1 W1 := by rw [hW1]; exact ((Below.refl _ v1).alloc (Nat.le_refl _) _).alloc (by simp) _
 have p1 : W1.heap[v1.heap.size]? = some (.cells #[.slice x0a x0n x0c, .slice x1a x1n x1c, .slice x2a x2n x2c, .slice x3a x3n x3c, .slice x4a x4n x4c] 28 (0, 0)) := by rw [hW1, Below.heap_alloc _ _ _ (by simp)]; exact heap_alloc_new v1 _
 have f1 : W1.heap[v1.heap.size + 1]? = some (.cells #[.int .i64 why1, .int .i64 at1] 31 (0, 0)) := by
  rw [hW1]
  have := heap_alloc_new (v1.alloc (.cells #[.slice x0a x0n x0c, .slice x1a x1n x1c, .slice x2a x2n x2c, .slice x3a x3n x3c, .slice x4a x4n x4c] 28)) (.cells #[.int .i64 why1, .int .i64 at1] 31)
  rw [show (v1.alloc (.cells #[.slice x0a x0n x0c, .slice x1a x1n x1c, .slice x2a x2n x2c, .slice x3a x3n x3c, .slice x4a x4n x4c] 28)).heap.size = v1.heap.size + 1 by simp] at this
  exact this
 obtain ⟨kp1, hkp1⟩ : ∃ k, v1.heap.size = k := ⟨_, rfl⟩
 obtain ⟨kf1, hkf1⟩ : ∃ k, v1.heap.size + 1 = k := ⟨_, rfl⟩
 rw [hkp1] at p1
 rw [hkf1] at f1
 have B1 : Below w.heap.size w W1 := b1.trans (c1.mono b1.size)
 have hp2 := parse_gen u (by omega) W1 ((unhide HE).later B1)
 have K1 := hide (And.intro B1 (And.intro p1 (And.intro f1 (And.intro c1 hR1))))
 have HW1 := hide hW1
 clear b1 c1 p1 f1 B1 hW1 hR1
 have HK1 := hide (And.intro hkp1 hkf1)
 clear hkp1 hkf1
 go_wp2_with fail
 rw [← unhide HW1, (unhide HK1).2, (unhide HK1).1]
 clear HW1 HK1
 refine hp2.mono ?_
 clear hp2
 rintro e v2 ⟨y0a, y0n, y0c, y1a, y1n, y1c, y2a, y2n, y2c, y3a, y3n, y3c, y4a, y4n, y4c, why2, at2, rfl, b2, hR2⟩
 obtain ⟨W2, hW2⟩ : ∃ W2, W2 = (v2.alloc (.cells #[.slice y0a y0n y0c, .slice y1a y1n y1c, .slice y2a y2n y2c, .slice y3a y3n y3c, .slice y4a y4n y4c] 28)).alloc (.cells #[.int .i64 why2, .int .i64 at2] 31) := ⟨_, rfl⟩
 have c2 : Below v2.heap.size v2 W2 := by rw [hW2]; exact ((Below.refl _ v2).alloc (Nat.le_refl _) _).alloc (by simp) _
 have p2 : W2.heap[v2.heap.size]? = some (.cells #[.slice y0a y0n y0c, .slice y1a y1n y1c, .slice y2a y2n y2c, .slice y3a y3n y3c, .slice y4a y4n y4c] 28 (0, 0)) := by rw [hW2, Below.heap_alloc _ _ _ (by simp)]; exact heap_alloc_new v2 _
 have f2 : W2.heap[v2.heap.size + 1]? = some (.cells #[.int .i64 why2, .int .i64 at2] 31 (0, 0)) := by
  rw [hW2]
  have := heap_alloc_new (v2.alloc (.cells #[.slice y0a y0n y0c, .slice y1a y1n y1c, .slice y2a y2n y2c, .slice y3a y3n y3c, .slice y4a y4n y4c] 28)) (.cells #[.int .i64 why2, .int .i64 at2] 31)
  rw [show (v2.alloc (.cells #[.slice y0a y0n y0c, .slice y1a y1n y1c, .slice y2a y2n y2c, .slice y3a y3n y3c, .slice y4a y4n y4c] 28)).heap.size = v2.heap.size + 1 by simp] at this
  exact this
 obtain ⟨kp2, hkp2⟩ : ∃ k, v2.heap.size = k := ⟨_, rfl⟩
 obtain ⟨kf2, hkf2⟩ : ∃ k, v2.heap.size + 1 = k := ⟨_, rfl⟩
 rw [hkp2] at p2
 rw [hkf2] at f2
 have B2 : Below W1.heap.size W1 W2 := b2.trans (c2.mono b2.size)
 have B02 : Below w.heap.size w W2 := (unhide K1).1.trans (B2.mono (unhide K1).1.size)
 have hp3 := parse_gen t2 hts W2 ((unhide HE).later B02)
 have K2 := hide (And.intro B2 (And.intro p2 (And.intro f2 (And.intro c2 (And.intro hR2 B02)))))
 have HW2 := hide hW2
 clear b2 c2 p2 f2 B2 B02 hW2 hR2
 have HK2 := hide (And.intro hkp2 hkf2)
 clear hkp2 hkf2
 go_wp2_with fail
 rw [← unhide HW2, (unhide HK2).2, (unhide HK2).1]
 clear HW2 HK2
 refine hp3.mono ?_
 clear hp3 hcat1 hcat2
 rintro e v3 ⟨z0a, z0n, z0c, z1a, z1n, z1c, z2a, z2n, z2c, z3a, z3n, z3c, z4a, z4n, z4c, why3, at3, rfl, b3, hR3⟩
 obtain ⟨W3, hW3⟩ : ∃ W3, W3 = (v3.alloc (.cells #[.slice z0a z0n z0c, .slice z1a z1n z1c, .slice z2a z2n z2c, .slice z3a z3n z3c, .slice z4a z4n z4c] 28)).alloc (.cells #[.int .i64 why3, .int .i64 at3] 31) := ⟨_, rfl⟩
 have c3 : Below v3.heap.size v3 W3 := by rw [hW3]; exact ((Below.refl _ v3).alloc (Nat.le_refl _) _).alloc (by simp) _
 have p3 : W3.heap[v3.heap.size]? = some (.cells #[.slice z0a z0n z0c, .slice z1a z1n z1c, .slice z2a z2n z2c, .slice z3a z3n z3c, .slice z4a z4n z4c] 28 (0, 0)) := by rw [hW3, Below.heap_alloc _ _ _ (by simp)]; exact heap_alloc_new v3 _
 have f3 : W3.heap[v3.heap.size + 1]? = some (.cells #[.int .i64 why3, .int .i64 at3] 31 (0, 0)) := by
  rw [hW3]
  have := heap_alloc_new (v3.alloc (.cells #[.slice z0a z0n z0c, .slice z1a z1n z1c, .slice z2a z2n z2c, .slice z3a z3n z3c, .slice z4a z4n z4c] 28)) (.cells #[.int .i64 why3, .int .i64 at3] 31)
  rw [show (v3.alloc (.cells #[.slice z0a z0n z0c, .slice z1a z1n z1c, .slice z2a z2n z2c, .slice z3a z3n z3c, .slice z4a z4n z4c] 28)).heap.size = v3.heap.size + 1 by simp] at this
  exact this
 obtain ⟨kp3, hkp3⟩ : ∃ k, v3.heap.size = k := ⟨_, rfl⟩
 obtain ⟨kf3, hkf3⟩ : ∃ k, v3.heap.size + 1 = k := ⟨_, rfl⟩
 rw [hkp3] at p3
 rw [hkf3] at f3
 have B3 : Below W2.heap.size W2 W3 := b3.trans (c3.mono b3.size)
 have B13 : Below W1.heap.size W1 W3 := (unhide K2).1.trans (B3.mono (unhide K2).1.size)
 have B03 : Below w.heap.size w W3 := (unhide K1).1.trans (B13.mono (unhide K1).1.size)
 have q1 := (B13.block _ (lt_hp (unhide K1).2.1)).trans (unhide K1).2.1
 have e1 := (B13.block _ (lt_hp (unhide K1).2.2.1)).trans (unhide K1).2.2.1
 have q2 := (B3.block _ (lt_hp (unhide K2).2.1)).trans (unhide K2).2.1
 have e2 := (B3.block _ (lt_hp (unhide K2).2.2.1)).trans (unhide K2).2.2.1
 have hE3 := (unhide HE).later B03
 have HBW := hide B03
 rcases (unhide K1).2.2.2.2 with ⟨_, hw1⟩ | ⟨p, lp, ip, hq1, rfl, rfl, hP1⟩
 ·
  have hz : (why1 == 0) = false := beq_eq_false_iff_ne.2 hw1
  obtain ⟨s_0, s_1, sf⟩ := cl2 e1
  have hal := alive9_any W3 hE3
  clear b3 c3 p3 f3 B3 B13 B03 q1 e1 q2 e2 hE3 hR3 hw1 K1 K2
  subst hW3
  go_wp2_with fail
  refine hal.mono ?_
  clear hal
  rintro en w9 ⟨rfl, b9⟩
  have B9 := hide b9
  clear b9
  go_wp2_with fail
  go_ret
  exact ⟨rfl, (unhide HBW).trans ((unhide B9).mono (unhide HBW).size)⟩
 ·
  rcases (unhide K2).2.2.2.2.1 with ⟨_, hw2⟩ | ⟨q, lq, iq, hq2, rfl, rfl, hP2⟩
  ·
   have hz : (why2 == 0) = false := beq_eq_false_iff_ne.2 hw2
   obtain ⟨s_0, s_1, sf⟩ := cl2 e1
   obtain ⟨t_0, t_1, tf⟩ := cl2 e2
   have hal := alive9_any W3 hE3
   clear b3 c3 p3 f3 B3 B13 B03 q1 e1 q2 e2 hE3 hR3 hw2 K1 K2 hP1 hq1
   subst hW3
   go_wp2_with fail
   refine hal.mono ?_
   clear hal
   rintro en w9 ⟨rfl, b9⟩
   have B9 := hide b9
   clear b9
   go_wp2_with fail
   go_ret
   exact ⟨rfl, (unhide HBW).trans ((unhide B9).mono (unhide HBW).size)⟩
  ·
   have hal := alive9_any W3 hE3
   obtain ⟨s_0, s_1, sf⟩ := cl2 e1
   obtain ⟨t_0, t_1, tf⟩ := cl2 e2
   have r1 : PgS (fun _ => True) W3 [.slice x0a x0n x0c, .slice x1a x1n x1c, .slice x2a x2n x2c, .slice x3a x3n x3c, .slice x4a x4n x4c] p := hP1.move (Nat.le_trans (unhide K1).2.2.2.1.size B13.size) (fun b hl _ => (B13.block b (Nat.lt_of_lt_of_le hl (unhide K1).2.2.2.1.size)).trans ((unhide K1).2.2.2.1.block b hl)) (fun _ _ => trivial)
   have r2 : PgS (fun _ => True) W3 [.slice y0a y0n y0c, .slice y1a y1n y1c, .slice y2a y2n y2c, .slice y3a y3n y3c, .slice y4a y4n y4c] q := hP2.move (Nat.le_trans (unhide K2).2.2.2.1.size B3.size) (fun b hl _ => (B3.block b (Nat.lt_of_lt_of_le hl (unhide K2).2.2.2.1.size)).trans ((unhide K2).2.2.2.1.block b hl)) (fun _ _ => trivial)
   have K3 := hide (And.intro q1 (And.intro q2 (And.intro p3 (And.intro f3 (And.intro r1 (And.intro r2 (And.intro c3 B03)))))))
   have HQ := hide (And.intro hq1 hq2)
   have HR3 := hide hR3
   have HKP := hide (And.intro hkp3 hkf3)
   clear b3 c3 B3 B13 B03 q1 e1 q2 e2 hE3 hR3 K1 K2 hP1 hP2 p3 f3 r1 r2 hq1 hq2 HBW
   have HW3 := hide hW3
   rw [hW3] at s_0 s_1 t_0 t_1
   clear sf tf hW3
   clear hkp3 hkf3
   go_wp2_with fail
   rw [← unhide HW3]
   refine hal.mono ?_
   clear hal s_0 s_1 t_0 t_1
   rintro en w4 ⟨rfl, b4⟩
   obtain ⟨q1, q2, p3, f3, r1, r2, c3, B03⟩ := unhide K3
   have m1 := (b4.block _ (lt_hp q1)).trans q1
   have m2 := (b4.block _ (lt_hp q2)).trans q2
   have m3 := (b4.block _ (lt_hp p3)).trans p3
   have m4 := (b4.block _ (lt_hp f3)).trans f3
   have B04 : Below w.heap.size w w4 := B03.trans (b4.mono B03.size)
   have HBW := hide B04
   rw [(unhide HKP).2, (unhide HKP).1]
   obtain ⟨s_0, s_1, sf⟩ := cl2 m4
   by_cases hy3 : why3 = 3
   ·
    subst hy3
    clear b4 q1 q2 p3 f3 r1 r2 c3 B03 m1 m2 m3 m4 B04
    go_wp2_with fail
    go_ret
    exact ⟨rfl, unhide HBW⟩
   ·
    have g3 : (why3 == 3) = false := beq_eq_false_iff_ne.2 hy3
    by_cases hy2 : why3 = 2
    ·
     subst hy2
     clear b4 q1 q2 p3 f3 r1 r2 c3 B03 m1 m2 m3 m4 B04
     go_wp2_with fail
     go_ret
     exact ⟨rfl, unhide HBW⟩
    ·
     have g2 : (why3 == 2) = false := beq_eq_false_iff_ne.2 hy2
     obtain ⟨lb, hlb⟩ : ∃ lb, lexP u.data.toList = .ok lb := by
      have hq2 := (unhide HQ).2
      unfold parseP at hq2
      cases h : lexP u.data.toList with
      | bad w a => rw [h] at hq2; cases hq2
      | ok lb => exact ⟨lb, rfl⟩
     have htk := rtokens_all u (by omega) w4
     rw [hlb] at htk
     have r14 := r1.move b4.size (fun b hl _ => b4.block b hl) (fun _ _ => trivial) (S' := fun _ => True)
     have r24 := r2.move b4.size (fun b hl _ => b4.block b hl) (fun _ _ => trivial) (S' := fun _ => True)
     have K4 := hide (And.intro m1 (And.intro m2 (And.intro m3 (And.intro m4 (And.intro r14 (And.intro r24 (And.intro b4 (And.intro c3 B04))))))))
     have HLB := hide hlb
     have HY := hide (And.intro hy3 hy2)
     clear b4 q1 q2 p3 f3 r1 r2 c3 B03 m1 m2 m3 m4 B04 r14 r24 hlb hy3 hy2 K3 HBW
     go_wp2_with fail
     refine htk.mono ?_
     clear htk s_0 s_1 sf g3 g2
     rintro e v5 ⟨v, rfl, hown, b5⟩
     simp only [Out.why, Out.fa, Out.toks] at hown ⊢
     obtain ⟨W5, hW5⟩ : ∃ W5, W5 = v5.alloc (.cells #[.int .i64 0, .int .i64 0] 31) := ⟨_, rfl⟩
     have c5 : Below v5.heap.size v5 W5 := by rw [hW5]; exact (Below.refl _ v5).alloc (Nat.le_refl _) _
     obtain ⟨m1, m2, m3, m4, r14, r24, b4, c3, B04⟩ := unhide K4
     have b45 : Below w4.heap.size w4 W5 := b5.trans (c5.mono b5.size)
     have B05 : Below w.heap.size w W5 := B04.trans (b45.mono B04.size)
     have n1 := (b45.block _ (lt_hp m1)).trans m1
     have n2 := (b45.block _ (lt_hp m2)).trans m2
     have n3 := (b45.block _ (lt_hp m3)).trans m3
     have n4 := (b45.block _ (lt_hp m4)).trans m4
     have hsl := (slAt_of hown).later c5
     obtain ⟨ao, cap, rfl, hcl1, hcl2, hrow⟩ := hsl
     unfold maxLen at hcl2
     have HBW := hide B05
     have key : (∀ t m, lb = t :: m → t.kind = 1 → t.text ≠ wIn ∧ t.text ≠ wOut) → why3 = 0 ∧ at3 = 0 ∧ ∃ r, PgS (fun _ => True) W5 [.slice z0a z0n z0c, .slice z1a z1n z1c, .slice z2a z2n z2c, .slice z3a z3n z3c, .slice z4a z4n z4c] r ∧ eqPg r (both p q) = true := fun hw => by
      have h2 := two_pure (unhide HQ).1 (unhide HQ).2 (unhide HLB) hw
      rw [← unhide HT] at h2
      rcases unhide HR3 with ⟨⟨l, hb⟩, _⟩ | ⟨r, lr, ir, hq3, e1, e2, hP3⟩
      ·
       rw [hb] at h2
       rcases h2 with ⟨x, l2, h2⟩ | ⟨x, l2, h2⟩ | ⟨r, l4, i4, h2, _⟩
       · injection h2 with h3 _ _; exact absurd h3 (unhide HY).2
       · injection h2 with h3 _ _; exact absurd h3 (unhide HY).1
       · cases h2
      ·
       rw [hq3] at h2
       rcases h2 with ⟨x, l2, h2⟩ | ⟨x, l2, h2⟩ | ⟨r2, l4, i4, h2, h5⟩
       · cases h2
       · cases h2
       ·
        injection h2 with h6 _ _
        subst h6
        refine ⟨e1, e2, r, ?_, h5⟩
        have hs3 : v3.heap.size ≤ W5.heap.size := Nat.le_trans c3.size (Nat.le_trans b4.size b45.size)
        exact hP3.move hs3 (fun b hl _ => ((b45.block b (Nat.lt_of_lt_of_le hl (Nat.le_trans c3.size b4.size))).trans (b4.block b (Nat.lt_of_lt_of_le hl c3.size))).trans (c3.block b hl)) (fun _ _ => trivial)
     have r15 := r14.move b45.size (fun b hl _ => b45.block b hl) (fun _ _ => trivial) (S' := fun _ => True)
     have r25 := r24.move b45.size (fun b hl _ => b45.block b hl) (fun _ _ => trivial) (S' := fun _ => True)
     have HBO : Hid (∀ W, Below W5.heap.size W5 W → Calls Tryz.prog 14 #[.agg #[.slice x0a x0n x0c, .slice x1a x1n x1c, .slice x2a x2n x2c, .slice x3a x3n x3c, .slice x4a x4n x4c], .agg #[.slice y0a y0n y0c, .slice y1a y1n y1c, .slice y2a y2n y2c, .slice y3a y3n y3c, .slice y4a y4n y4c]] W fun en w' => ∃ v, en = .returned v ∧ VPg (fun _ => True) w' v (both p q) ∧ Below W.heap.size W w') := fun W hW => both_any (r15.move hW.size (fun b hl _ => hW.block b hl) (fun _ _ => trivial)) (r25.move hW.size (fun b hl _ => hW.block b hl) (fun _ _ => trivial)) (parse_few (unhide HQ).1) (parse_few (unhide HQ).2)
     have HN := hide (And.intro n1 (And.intro n2 (And.intro n3 n4)))
     have KEY := hide key
     have HROW := hide hrow
     clear hown b5 c5 m1 m2 m3 m4 r14 r24 b4 c3 B04 b45 B05 n1 n2 n3 n4 hrow key r15 r25 K4
     cases lb with
     | nil =>
      obtain ⟨rfl, rfl, r, hPr, heq⟩ := unhide KEY (fun t m e => by cases e)
      have HEQ := hide heq
      have HPR : Hid (∀ W, Below W5.heap.size W5 W → PgS (fun _ => True) W [.slice z0a z0n z0c, .slice z1a z1n z1c, .slice z2a z2n z2c, .slice z3a z3n z3c, .slice z4a z4n z4c] r) := fun W hW => hPr.move hW.size (fun b hl _ => hW.block b hl) (fun _ _ => trivial)
      have HC : Hid (∀ w', Below W5.heap.size W5 w' → w'.heap[kp1]? = some (.cells #[.slice x0a x0n x0c, .slice x1a x1n x1c, .slice x2a x2n x2c, .slice x3a x3n x3c, .slice x4a x4n x4c] 28 (0, 0)) ∧ w'.heap[kp2]? = some (.cells #[.slice y0a y0n y0c, .slice y1a y1n y1c, .slice y2a y2n y2c, .slice y3a y3n y3c, .slice y4a y4n y4c] 28 (0, 0)) ∧ w'.heap[kp3]? = some (.cells #[.slice z0a z0n z0c, .slice z1a z1n z1c, .slice z2a z2n z2c, .slice z3a z3n z3c, .slice z4a z4n z4c] 28 (0, 0)) ∧ w'.heap[kf3]? = some (.cells #[.int .i64 0, .int .i64 0] 31 (0, 0))) := fun w' bb => ⟨(bb.block _ (lt_hp (unhide HN).1)).trans (unhide HN).1, (bb.block _ (lt_hp (unhide HN).2.1)).trans (unhide HN).2.1, (bb.block _ (lt_hp (unhide HN).2.2.1)).trans (unhide HN).2.2.1, (bb.block _ (lt_hp (unhide HN).2.2.2)).trans (unhide HN).2.2.2⟩
      clear heq hPr
      have HW5 := hide hW5
      clear hW5
      go_wp2_with fail
      rw [← unhide HW5]
      refine region_mixN (md := [(0, true), (1, true), (2, true), (3, true), (4, true), (5, true), (6, true), (7, false), (8, false), (9, true), (10, true)]) (fun w' => w'.heap[kp1]? = some (.cells #[.slice x0a x0n x0c, .slice x1a x1n x1c, .slice x2a x2n x2c, .slice x3a x3n x3c, .slice x4a x4n x4c] 28 (0, 0)) ∧ w'.heap[kp2]? = some (.cells #[.slice y0a y0n y0c, .slice y1a y1n y1c, .slice y2a y2n y2c, .slice y3a y3n y3c, .slice y4a y4n y4c] 28 (0, 0)) ∧ w'.heap[kp3]? = some (.cells #[.slice z0a z0n z0c, .slice z1a z1n z1c, .slice z2a z2n z2c, .slice z3a z3n z3c, .slice z4a z4n z4c] 28 (0, 0)) ∧ w'.heap[kf3]? = some (.cells #[.int .i64 0, .int .i64 0] 31 (0, 0))) mixedO (by kernel_rfl) rfl (by kernel_rfl) (fun PP hPP => ?_)
      refine wpMix_take (v := ?_) rfl (by kernel_rfl) (fun w' hw => ?_) ?_
      rotate_left
      · (obtain ⟨g_1, g_2, g_3, g_4⟩ := hw; obtain ⟨x_0, x_1, x_2, x_3, x_4, xf⟩ := cl5 g_1; obtain ⟨y_0, y_1, y_2, y_3, y_4, yf⟩ := cl5 g_2; obtain ⟨z_0, z_1, z_2, z_3, z_4, zf⟩ := cl5 g_3; obtain ⟨t_0, t_1, tf⟩ := cl2 g_4; go_simp; try with_reducible rfl)
      refine wpMix_take (v := ?_) rfl (by kernel_rfl) (fun w' hw => ?_) ?_
      rotate_left
      · (go_simp; try with_reducible rfl)
      refine wpMix_take (v := .bool true) rfl (by kernel_rfl) (fun w' hw => ?_) ?_
      · (obtain ⟨g_1, g_2, g_3, g_4⟩ := hw; obtain ⟨x_0, x_1, x_2, x_3, x_4, xf⟩ := cl5 g_1; obtain ⟨y_0, y_1, y_2, y_3, y_4, yf⟩ := cl5 g_2; obtain ⟨z_0, z_1, z_2, z_3, z_4, zf⟩ := cl5 g_3; obtain ⟨t_0, t_1, tf⟩ := cl2 g_4; go_simp; try with_reducible rfl)
      refine wpMix_take (v := .bool true) rfl (by kernel_rfl) (fun w' hw => ?_) ?_
      · (go_simp; try with_reducible rfl)
      refine wpMix_take (v := ?_) rfl (by kernel_rfl) (fun w' hw => ?_) ?_
      rotate_left
      · (obtain ⟨g_1, g_2, g_3, g_4⟩ := hw; obtain ⟨x_0, x_1, x_2, x_3, x_4, xf⟩ := cl5 g_1; obtain ⟨y_0, y_1, y_2, y_3, y_4, yf⟩ := cl5 g_2; obtain ⟨z_0, z_1, z_2, z_3, z_4, zf⟩ := cl5 g_3; obtain ⟨t_0, t_1, tf⟩ := cl2 g_4; go_simp; try with_reducible rfl)
      refine wpMix_take (v := ?_) rfl (by kernel_rfl) (fun w' hw => ?_) ?_
      rotate_left
      · (obtain ⟨g_1, g_2, g_3, g_4⟩ := hw; obtain ⟨x_0, x_1, x_2, x_3, x_4, xf⟩ := cl5 g_1; obtain ⟨y_0, y_1, y_2, y_3, y_4, yf⟩ := cl5 g_2; obtain ⟨z_0, z_1, z_2, z_3, z_4, zf⟩ := cl5 g_3; obtain ⟨t_0, t_1, tf⟩ := cl2 g_4; go_simp; try with_reducible rfl)
      refine wpMix_take (v := ?_) rfl (by kernel_rfl) (fun w' hw => ?_) ?_
      rotate_left
      · (obtain ⟨g_1, g_2, g_3, g_4⟩ := hw; obtain ⟨x_0, x_1, x_2, x_3, x_4, xf⟩ := cl5 g_1; obtain ⟨y_0, y_1, y_2, y_3, y_4, yf⟩ := cl5 g_2; obtain ⟨z_0, z_1, z_2, z_3, z_4, zf⟩ := cl5 g_3; obtain ⟨t_0, t_1, tf⟩ := cl2 g_4; go_simp; try with_reducible rfl)
      refine wpMix_force rfl (unhide HC _ ((Below.refl _ W5).drew)) (fun K hK => ?_)
      go_simp
      have hcl := unhide HBO W5.drew ((Below.refl _ W5).drew)
      refine hcl.mono ?_
      clear hcl
      rintro en w6 ⟨_, rfl, ⟨o0a, o0n, o0c, o1a, o1n, o1c, o2a, o2n, o2c, o3a, o3n, o3c, o4a, o4n, o4c, rfl, hPo⟩, b6⟩
      have b56 : Below W5.heap.size W5 w6 := (Below.refl _ W5).drew.trans b6
      have hsm := rsamePg_any r (both p q) (fun _ => True) w6 _ _ _ _ _ _ _ _ _ _ (unhide HPR w6 b56) hPo
      rw [unhide HEQ] at hsm
      have B56 := hide b56
      clear b56 b6 hPo
      show K _ _
      refine hK _ _ ?_
      clear hK K
      refine wpMix_force rfl (unhide HC _ (unhide B56)) (fun K hK => ?_)
      go_simp
      refine hsm.mono ?_
      clear hsm
      rintro en w7 ⟨rfl, b7⟩
      have B57 := hide ((unhide B56).trans (b7.mono (unhide B56).size))
      clear b7
      show K _ _
      refine hK _ _ ?_
      clear hK K
      refine wpMix_take (v := .bool true) rfl (by kernel_rfl) (fun w' hw => ?_) ?_
      · (go_simp; try with_reducible rfl)
      refine wpMix_take (v := .bool true) rfl (by kernel_rfl) (fun w' hw => ?_) ?_
      · (go_simp; try with_reducible rfl)
      refine wpMix_nil (unhide HC _ (unhide B57)) (hPP _ _ ?_)
      clear hPP PP
      simp [Act.put, Array.setIfInBounds]
      go_wp2_with fail
      go_ret
      exact ⟨rfl, (unhide HBW).trans ((unhide B57).mono (unhide HBW).size)⟩
     | cons t m =>
      obtain ⟨g, rfl, hrw⟩ : ∃ g, ao = some ⟨g, 0, none⟩ ∧ RowAt W5 g cap (t :: m) := by
       rcases unhide HROW with h | h
       · cases h
       · exact h
      obtain ⟨k_0, k_1, -, -⟩ := hrw.cells 0 t rfl
      simp only [Nat.zero_mul, Nat.zero_add] at k_0 k_1
      clear hrw HROW
      obtain ⟨n, hn⟩ : ∃ n, m.length = n := ⟨_, rfl⟩
      have hlen : (t :: m).length = n + 1 := by rw [List.length_cons, hn]
      rw [hlen] at hcl1 ⊢
      have gl : decide ((0 : Int) < ((n + 1 : Nat) : Int)) = true := decide_eq_true (by omega)
      clear hlen hn
      by_cases hk : t.kind = 1
      ·
       have gk : (t.kind == 1) = true := beq_iff_eq.2 hk
       by_cases h1 : t.text = wIn
       ·
        have g1 : (t.text == [105, 110, 112, 117, 116]) = true := by rw [h1]; rfl
        clear hk h1
        rw [hW5] at k_0 k_1
        subst hW5
        go_wp2_with fail
        go_ret
        exact ⟨rfl, unhide HBW⟩
       ·
        have g1 : (t.text == [105, 110, 112, 117, 116]) = false := by
         have : ¬ t.text = [105, 110, 112, 117, 116] := h1
         simpa using this
        by_cases h2 : t.text = wOut
        ·
         have g2 : (t.text == [111, 117, 116, 112, 117, 116]) = true := by rw [h2]; rfl
         clear hk h1 h2
         rw [hW5] at k_0 k_1
         subst hW5
         go_wp2_with fail
         go_ret
         exact ⟨rfl, unhide HBW⟩
        ·
         have g2 : (t.text == [111, 117, 116, 112, 117, 116]) = false := by
          have : ¬ t.text = [111, 117, 116, 112, 117, 116] := h2
          simpa using this
         have HH := hide (And.intro h1 h2)
         clear hk h1 h2
         obtain ⟨rfl, rfl, r, hPr, heq⟩ := unhide KEY (fun t' m' e _ => by injection e with e1 _; subst e1; exact unhide HH)
         have HEQ := hide heq
         have HPR : Hid (∀ W, Below W5.heap.size W5 W → PgS (fun _ => True) W [.slice z0a z0n z0c, .slice z1a z1n z1c, .slice z2a z2n z2c, .slice z3a z3n z3c, .slice z4a z4n z4c] r) := fun W hW => hPr.move hW.size (fun b hl _ => hW.block b hl) (fun _ _ => trivial)
         have HC : Hid (∀ w', Below W5.heap.size W5 w' → w'.heap[kp1]? = some (.cells #[.slice x0a x0n x0c, .slice x1a x1n x1c, .slice x2a x2n x2c, .slice x3a x3n x3c, .slice x4a x4n x4c] 28 (0, 0)) ∧ w'.heap[kp2]? = some (.cells #[.slice y0a y0n y0c, .slice y1a y1n y1c, .slice y2a y2n y2c, .slice y3a y3n y3c, .slice y4a y4n y4c] 28 (0, 0)) ∧ w'.heap[kp3]? = some (.cells #[.slice z0a z0n z0c, .slice z1a z1n z1c, .slice z2a z2n z2c, .slice z3a z3n z3c, .slice z4a z4n z4c] 28 (0, 0)) ∧ w'.heap[kf3]? = some (.cells #[.int .i64 0, .int .i64 0] 31 (0, 0))) := fun w' bb => ⟨(bb.block _ (lt_hp (unhide HN).1)).trans (unhide HN).1, (bb.block _ (lt_hp (unhide HN).2.1)).trans (unhide HN).2.1, (bb.block _ (lt_hp (unhide HN).2.2.1)).trans (unhide HN).2.2.1, (bb.block _ (lt_hp (unhide HN).2.2.2)).trans (unhide HN).2.2.2⟩
         clear heq hPr
         have HW5 := hide hW5
         clear hW5
         rw [unhide HW5] at k_0 k_1
         go_wp2_with fail
         rw [← unhide HW5]
         clear k_0 k_1 g1 g2 gk gl
         refine region_mixN (md := [(0, true), (1, true), (2, true), (3, true), (4, true), (5, true), (6, true), (7, false), (8, false), (9, true), (10, true)]) (fun w' => w'.heap[kp1]? = some (.cells #[.slice x0a x0n x0c, .slice x1a x1n x1c, .slice x2a x2n x2c, .slice x3a x3n x3c, .slice x4a x4n x4c] 28 (0, 0)) ∧ w'.heap[kp2]? = some (.cells #[.slice y0a y0n y0c, .slice y1a y1n y1c, .slice y2a y2n y2c, .slice y3a y3n y3c, .slice y4a y4n y4c] 28 (0, 0)) ∧ w'.heap[kp3]? = some (.cells #[.slice z0a z0n z0c, .slice z1a z1n z1c, .slice z2a z2n z2c, .slice z3a z3n z3c, .slice z4a z4n z4c] 28 (0, 0)) ∧ w'.heap[kf3]? = some (.cells #[.int .i64 0, .int .i64 0] 31 (0, 0))) mixedO (by kernel_rfl) rfl (by kernel_rfl) (fun PP hPP => ?_)
         refine wpMix_take (v := ?_) rfl (by kernel_rfl) (fun w' hw => ?_) ?_
         rotate_left
         · (obtain ⟨g_1, g_2, g_3, g_4⟩ := hw; obtain ⟨x_0, x_1, x_2, x_3, x_4, xf⟩ := cl5 g_1; obtain ⟨y_0, y_1, y_2, y_3, y_4, yf⟩ := cl5 g_2; obtain ⟨z_0, z_1, z_2, z_3, z_4, zf⟩ := cl5 g_3; obtain ⟨t_0, t_1, tf⟩ := cl2 g_4; go_simp; try with_reducible rfl)
         refine wpMix_take (v := ?_) rfl (by kernel_rfl) (fun w' hw => ?_) ?_
         rotate_left
         · (go_simp; try with_reducible rfl)
         refine wpMix_take (v := .bool true) rfl (by kernel_rfl) (fun w' hw => ?_) ?_
         · (obtain ⟨g_1, g_2, g_3, g_4⟩ := hw; obtain ⟨x_0, x_1, x_2, x_3, x_4, xf⟩ := cl5 g_1; obtain ⟨y_0, y_1, y_2, y_3, y_4, yf⟩ := cl5 g_2; obtain ⟨z_0, z_1, z_2, z_3, z_4, zf⟩ := cl5 g_3; obtain ⟨t_0, t_1, tf⟩ := cl2 g_4; go_simp; try with_reducible rfl)
         refine wpMix_take (v := .bool true) rfl (by kernel_rfl) (fun w' hw => ?_) ?_
         · (go_simp; try with_reducible rfl)
         refine wpMix_take (v := ?_) rfl (by kernel_rfl) (fun w' hw => ?_) ?_
         rotate_left
         · (obtain ⟨g_1, g_2, g_3, g_4⟩ := hw; obtain ⟨x_0, x_1, x_2, x_3, x_4, xf⟩ := cl5 g_1; obtain ⟨y_0, y_1, y_2, y_3, y_4, yf⟩ := cl5 g_2; obtain ⟨z_0, z_1, z_2, z_3, z_4, zf⟩ := cl5 g_3; obtain ⟨t_0, t_1, tf⟩ := cl2 g_4; go_simp; try with_reducible rfl)
         refine wpMix_take (v := ?_) rfl (by kernel_rfl) (fun w' hw => ?_) ?_
         rotate_left
         · (obtain ⟨g_1, g_2, g_3, g_4⟩ := hw; obtain ⟨x_0, x_1, x_2, x_3, x_4, xf⟩ := cl5 g_1; obtain ⟨y_0, y_1, y_2, y_3, y_4, yf⟩ := cl5 g_2; obtain ⟨z_0, z_1, z_2, z_3, z_4, zf⟩ := cl5 g_3; obtain ⟨t_0, t_1, tf⟩ := cl2 g_4; go_simp; try with_reducible rfl)
         refine wpMix_take (v := ?_) rfl (by kernel_rfl) (fun w' hw => ?_) ?_
         rotate_left
         · (obtain ⟨g_1, g_2, g_3, g_4⟩ := hw; obtain ⟨x_0, x_1, x_2, x_3, x_4, xf⟩ := cl5 g_1; obtain ⟨y_0, y_1, y_2, y_3, y_4, yf⟩ := cl5 g_2; obtain ⟨z_0, z_1, z_2, z_3, z_4, zf⟩ := cl5 g_3; obtain ⟨t_0, t_1, tf⟩ := cl2 g_4; go_simp; try with_reducible rfl)
         refine wpMix_force rfl (unhide HC _ ((Below.refl _ W5).drew)) (fun K hK => ?_)
         go_simp
         have hcl := unhide HBO W5.drew ((Below.refl _ W5).drew)
         refine hcl.mono ?_
         clear hcl
         rintro en w6 ⟨_, rfl, ⟨o0a, o0n, o0c, o1a, o1n, o1c, o2a, o2n, o2c, o3a, o3n, o3c, o4a, o4n, o4c, rfl, hPo⟩, b6⟩
         have b56 : Below W5.heap.size W5 w6 := (Below.refl _ W5).drew.trans b6
         have hsm := rsamePg_any r (both p q) (fun _ => True) w6 _ _ _ _ _ _ _ _ _ _ (unhide HPR w6 b56) hPo
         rw [unhide HEQ] at hsm
         have B56 := hide b56
         clear b56 b6 hPo
         show K _ _
         refine hK _ _ ?_
         clear hK K
         refine wpMix_force rfl (unhide HC _ (unhide B56)) (fun K hK => ?_)
         go_simp
         refine hsm.mono ?_
         clear hsm
         rintro en w7 ⟨rfl, b7⟩
         have B57 := hide ((unhide B56).trans (b7.mono (unhide B56).size))
         clear b7
         show K _ _
         refine hK _ _ ?_
         clear hK K
         refine wpMix_take (v := .bool true) rfl (by kernel_rfl) (fun w' hw => ?_) ?_
         · (go_simp; try with_reducible rfl)
         refine wpMix_take (v := .bool true) rfl (by kernel_rfl) (fun w' hw => ?_) ?_
         · (go_simp; try with_reducible rfl)
         refine wpMix_nil (unhide HC _ (unhide B57)) (hPP _ _ ?_)
         clear hPP PP
         simp [Act.put, Array.setIfInBounds]
         go_wp2_with fail
         go_ret
         exact ⟨rfl, (unhide HBW).trans ((unhide B57).mono (unhide HBW).size)⟩
      ·
       have gk : (t.kind == 1) = false := beq_eq_false_iff_ne.2 hk
       have HH := hide hk
       clear hk
       obtain ⟨rfl, rfl, r, hPr, heq⟩ := unhide KEY (fun t' m' e h => by injection e with e1 _; subst e1; exact absurd h (unhide HH))
       have HEQ := hide heq
       have HPR : Hid (∀ W, Below W5.heap.size W5 W → PgS (fun _ => True) W [.slice z0a z0n z0c, .slice z1a z1n z1c, .slice z2a z2n z2c, .slice z3a z3n z3c, .slice z4a z4n z4c] r) := fun W hW => hPr.move hW.size (fun b hl _ => hW.block b hl) (fun _ _ => trivial)
       have HC : Hid (∀ w', Below W5.heap.size W5 w' → w'.heap[kp1]? = some (.cells #[.slice x0a x0n x0c, .slice x1a x1n x1c, .slice x2a x2n x2c, .slice x3a x3n x3c, .slice x4a x4n x4c] 28 (0, 0)) ∧ w'.heap[kp2]? = some (.cells #[.slice y0a y0n y0c, .slice y1a y1n y1c, .slice y2a y2n y2c, .slice y3a y3n y3c, .slice y4a y4n y4c] 28 (0, 0)) ∧ w'.heap[kp3]? = some (.cells #[.slice z0a z0n z0c, .slice z1a z1n z1c, .slice z2a z2n z2c, .slice z3a z3n z3c, .slice z4a z4n z4c] 28 (0, 0)) ∧ w'.heap[kf3]? = some (.cells #[.int .i64 0, .int .i64 0] 31 (0, 0))) := fun w' bb => ⟨(bb.block _ (lt_hp (unhide HN).1)).trans (unhide HN).1, (bb.block _ (lt_hp (unhide HN).2.1)).trans (unhide HN).2.1, (bb.block _ (lt_hp (unhide HN).2.2.1)).trans (unhide HN).2.2.1, (bb.block _ (lt_hp (unhide HN).2.2.2)).trans (unhide HN).2.2.2⟩
       clear heq hPr
       have HW5 := hide hW5
       clear hW5
       rw [unhide HW5] at k_0 k_1
       go_wp2_with fail
       rw [← unhide HW5]
       clear k_0 k_1 gk gl
       refine region_mixN (md := [(0, true), (1, true), (2, true), (3, true), (4, true), (5, true), (6, true), (7, false), (8, false), (9, true), (10, true)]) (fun w' => w'.heap[kp1]? = some (.cells #[.slice x0a x0n x0c, .slice x1a x1n x1c, .slice x2a x2n x2c, .slice x3a x3n x3c, .slice x4a x4n x4c] 28 (0, 0)) ∧ w'.heap[kp2]? = some (.cells #[.slice y0a y0n y0c, .slice y1a y1n y1c, .slice y2a y2n y2c, .slice y3a y3n y3c, .slice y4a y4n y4c] 28 (0, 0)) ∧ w'.heap[kp3]? = some (.cells #[.slice z0a z0n z0c, .slice z1a z1n z1c, .slice z2a z2n z2c, .slice z3a z3n z3c, .slice z4a z4n z4c] 28 (0, 0)) ∧ w'.heap[kf3]? = some (.cells #[.int .i64 0, .int .i64 0] 31 (0, 0))) mixedO (by kernel_rfl) rfl (by kernel_rfl) (fun PP hPP => ?_)
       refine wpMix_take (v := ?_) rfl (by kernel_rfl) (fun w' hw => ?_) ?_
       rotate_left
       · (obtain ⟨g_1, g_2, g_3, g_4⟩ := hw; obtain ⟨x_0, x_1, x_2, x_3, x_4, xf⟩ := cl5 g_1; obtain ⟨y_0, y_1, y_2, y_3, y_4, yf⟩ := cl5 g_2; obtain ⟨z_0, z_1, z_2, z_3, z_4, zf⟩ := cl5 g_3; obtain ⟨t_0, t_1, tf⟩ := cl2 g_4; go_simp; try with_reducible rfl)
       refine wpMix_take (v := ?_) rfl (by kernel_rfl) (fun w' hw => ?_) ?_
       rotate_left
       · (go_simp; try with_reducible rfl)
       refine wpMix_take (v := .bool true) rfl (by kernel_rfl) (fun w' hw => ?_) ?_
       · (obtain ⟨g_1, g_2, g_3, g_4⟩ := hw; obtain ⟨x_0, x_1, x_2, x_3, x_4, xf⟩ := cl5 g_1; obtain ⟨y_0, y_1, y_2, y_3, y_4, yf⟩ := cl5 g_2; obtain ⟨z_0, z_1, z_2, z_3, z_4, zf⟩ := cl5 g_3; obtain ⟨t_0, t_1, tf⟩ := cl2 g_4; go_simp; try with_reducible rfl)
       refine wpMix_take (v := .bool true) rfl (by kernel_rfl) (fun w' hw => ?_) ?_
       · (go_simp; try with_reducible rfl)
       refine wpMix_take (v := ?_) rfl (by kernel_rfl) (fun w' hw => ?_) ?_
       rotate_left
       · (obtain ⟨g_1, g_2, g_3, g_4⟩ := hw; obtain ⟨x_0, x_1, x_2, x_3, x_4, xf⟩ := cl5 g_1; obtain ⟨y_0, y_1, y_2, y_3, y_4, yf⟩ := cl5 g_2; obtain ⟨z_0, z_1, z_2, z_3, z_4, zf⟩ := cl5 g_3; obtain ⟨t_0, t_1, tf⟩ := cl2 g_4; go_simp; try with_reducible rfl)
       refine wpMix_take (v := ?_) rfl (by kernel_rfl) (fun w' hw => ?_) ?_
       rotate_left
       · (obtain ⟨g_1, g_2, g_3, g_4⟩ := hw; obtain ⟨x_0, x_1, x_2, x_3, x_4, xf⟩ := cl5 g_1; obtain ⟨y_0, y_1, y_2, y_3, y_4, yf⟩ := cl5 g_2; obtain ⟨z_0, z_1, z_2, z_3, z_4, zf⟩ := cl5 g_3; obtain ⟨t_0, t_1, tf⟩ := cl2 g_4; go_simp; try with_reducible rfl)
       refine wpMix_take (v := ?_) rfl (by kernel_rfl) (fun w' hw => ?_) ?_
       rotate_left
       · (obtain ⟨g_1, g_2, g_3, g_4⟩ := hw; obtain ⟨x_0, x_1, x_2, x_3, x_4, xf⟩ := cl5 g_1; obtain ⟨y_0, y_1, y_2, y_3, y_4, yf⟩ := cl5 g_2; obtain ⟨z_0, z_1, z_2, z_3, z_4, zf⟩ := cl5 g_3; obtain ⟨t_0, t_1, tf⟩ := cl2 g_4; go_simp; try with_reducible rfl)
       refine wpMix_force rfl (unhide HC _ ((Below.refl _ W5).drew)) (fun K hK => ?_)
       go_simp
       have hcl := unhide HBO W5.drew ((Below.refl _ W5).drew)
       refine hcl.mono ?_
       clear hcl
       rintro en w6 ⟨_, rfl, ⟨o0a, o0n, o0c, o1a, o1n, o1c, o2a, o2n, o2c, o3a, o3n, o3c, o4a, o4n, o4c, rfl, hPo⟩, b6⟩
       have b56 : Below W5.heap.size W5 w6 := (Below.refl _ W5).drew.trans b6
       have hsm := rsamePg_any r (both p q) (fun _ => True) w6 _ _ _ _ _ _ _ _ _ _ (unhide HPR w6 b56) hPo
       rw [unhide HEQ] at hsm
       have B56 := hide b56
       clear b56 b6 hPo
       show K _ _
       refine hK _ _ ?_
       clear hK K
       refine wpMix_force rfl (unhide HC _ (unhide B56)) (fun K hK => ?_)
       go_simp
       refine hsm.mono ?_
       clear hsm
       rintro en w7 ⟨rfl, b7⟩
       have B57 := hide ((unhide B56).trans (b7.mono (unhide B56).size))
       clear b7
       show K _ _
       refine hK _ _ ?_
       clear hK K
       refine wpMix_take (v := .bool true) rfl (by kernel_rfl) (fun w' hw => ?_) ?_
       · (go_simp; try with_reducible rfl)
       refine wpMix_take (v := .bool true) rfl (by kernel_rfl) (fun w' hw => ?_) ?_
       · (go_simp; try with_reducible rfl)
       refine wpMix_nil (unhide HC _ (unhide B57)) (hPP _ _ ?_)
       clear hPP PP
       simp [Act.put, Array.setIfInBounds]
       go_wp2_with fail
       go_ret
       exact ⟨rfl, (unhide HBW).trans ((unhide B57).mono (unhide HBW).size)⟩
end Go.Proofs.YtdjehbdpcdikkaaGreatDoor
