/- A region that leaves its order open: where two or three operations are ready, every way. Boxes of a program and of a fault that are filled in a drawn region. syn: SameExpr, as a chain. syn: SameAtom, as a chain. slices.Equal at vestry/vestryref09.fields. slices.Equal at vestry/vestryref09.texts. -/
import Derived.Test.YtdjehbdpcdikkaaGreatDoorMg11
import Derived.Test.YtdjehbdpcdikkaaGreatDoorMg39
import Derived.Test.YtdjehbdpcdikkaaGreatDoorMg29
import Derived.Test.YtdjehbdpcdikkaaGreatDoorMg30
namespace Go.Proofs.YtdjehbdpcdikkaaGreatDoor
open Go.RowKit

/-- The orders of a region, as a tree. -/
inductive MT where
  | nil
  | take (k : Nat) (r : MT)
  | one (k : Nat) (r : MT)
  | two (k n : Nat) (a b : MT)
  | three (k n m : Nat) (a b c : MT)
def MT.len : MT → Nat
  | .nil => 0
  | .take _ r => r.len + 1
  | .one _ r => r.len + 1
  | .two _ _ a _ => a.len + 1
  | .three _ _ _ a _ _ => a.len + 1
section
variable {P : Program} {ops : Array Oper} {md : Region.Mode} {Q : Exit → Act → World → Prop} {C : World → Prop}
def MT.ok (md : Region.Mode) (ops : Array Oper) : MT → Array Bool → Bool
  | .nil, listed => (Region.ready md ops listed).isEmpty
  | .take k r, listed => (Region.ready md ops listed).contains k && Region.free md ops listed k && r.ok md ops (listed.setIfInBounds k true)
  | .one k r, listed => decide (Region.ready md ops listed = [k]) && r.ok md ops (listed.setIfInBounds k true)
  | .two k n a b, listed => decide (Region.ready md ops listed = [k, n]) && decide (b.len = a.len) && a.ok md ops (listed.setIfInBounds k true) && b.ok md ops (listed.setIfInBounds n true)
  | .three k n m a b c, listed => decide (Region.ready md ops listed = [k, n, m]) && decide (b.len = a.len) && decide (c.len = a.len) && a.ok md ops (listed.setIfInBounds k true) && b.ok md ops (listed.setIfInBounds n true) && c.ok md ops (listed.setIfInBounds m true)
def wpTr (P : Program) (ops : Array Oper) (C : World → Prop) (Q : Exit → Act → World → Prop) : MT → Act → World → Prop
  | .nil, a, w => C w ∧ Q .normal a w
  | .take k r, a, w => ∃ o v, ops[k]? = some o ∧ (∀ w, C w → YieldsAt P ops w o v a) ∧ wpTr P ops C Q r (a.put o.dst v) w
  | .one k r, a, w => C w ∧ wpOp P ops Q k (fun a' w' => wpTr P ops C Q r a' w') a w
  | .two k n x y, a, w => C w ∧ wpOp P ops Q k (fun a' w' => wpTr P ops C Q x a' w') a w ∧ wpOp P ops Q n (fun a' w' => wpTr P ops C Q y a' w') a w
  | .three k n m x y z, a, w => C w ∧ wpOp P ops Q k (fun a' w' => wpTr P ops C Q x a' w') a w ∧ wpOp P ops Q n (fun a' w' => wpTr P ops C Q y a' w') a w ∧ wpOp P ops Q m (fun a' w' => wpTr P ops C Q z a' w') a w
theorem wpAnyC_tr (hsel : Region.noSelect ops = true) (hL : ¬ LetsOut Q) (hQ : ∀ c (a : Act) d v w, Q (.panic c) (a.put d v) w → Q (.panic c) a w) : ∀ (l : MT) (listed : Array Bool) (a : Act) (w : World), l.ok md ops listed = true → wpTr P ops C Q l a w → wpAnyC P md ops C Q l.len listed a w
  | .nil, listed, a, w, hB, h => ⟨h.1, by simpa [MT.ok] using hB, h.2⟩
  | .take k r, listed, a, w, hB, h => by
    simp only [MT.ok, Bool.and_eq_true] at hB
    obtain ⟨⟨hr, hf⟩, hB'⟩ := hB
    obtain ⟨o, v, ho, hy, h'⟩ := h
    exact wpAnyC_first ho (Region.noSelect_spec hsel) hL hQ r.len listed a w (Region.free_spec ho hf) (by simpa using hr) hy (wpAnyC_tr hsel hL hQ r _ _ _ hB' h')
  | .one k r, listed, a, w, hB, h => by
    simp only [MT.ok, Bool.and_eq_true, decide_eq_true_eq] at hB
    refine ⟨h.1, fun e => (by rw [hB.1] at e; cases e), fun i hi => ?_⟩
    rw [hB.1] at hi
    have e : i = k := by simpa using hi
    subst e
    exact wpOp_mono (fun a' w' h' => wpAnyC_tr hsel hL hQ r _ a' w' hB.2 h') h.2
  | .two k n x y, listed, a, w, hB, h => by
    simp only [MT.ok, Bool.and_eq_true, decide_eq_true_eq] at hB
    obtain ⟨⟨⟨hr, hl⟩, h1⟩, h2⟩ := hB
    refine ⟨h.1, fun e => (by rw [hr] at e; cases e), fun i hi => ?_⟩
    rw [hr] at hi
    simp only [List.mem_cons, List.not_mem_nil, or_false] at hi
    rcases hi with rfl | rfl
    · exact wpOp_mono (fun a' w' h' => wpAnyC_tr hsel hL hQ x _ a' w' h1 h') h.2.1
    · exact wpOp_mono (fun a' w' h' => by have := wpAnyC_tr hsel hL hQ y _ a' w' h2 h'; rw [hl] at this; exact this) h.2.2
  | .three k n m x y z, listed, a, w, hB, h => by
    simp only [MT.ok, Bool.and_eq_true, decide_eq_true_eq] at hB
    obtain ⟨⟨⟨⟨⟨hr, hl⟩, hl2⟩, h1⟩, h2⟩, h3⟩ := hB
    refine ⟨h.1, fun e => (by rw [hr] at e; cases e), fun i hi => ?_⟩
    rw [hr] at hi
    simp only [List.mem_cons, List.not_mem_nil, or_false] at hi
    rcases hi with rfl | rfl | rfl
    · exact wpOp_mono (fun a' w' h' => wpAnyC_tr hsel hL hQ x _ a' w' h1 h') h.2.1
    · exact wpOp_mono (fun a' w' h' => by have := wpAnyC_tr hsel hL hQ y _ a' w' h2 h'; rw [hl] at this; exact this) h.2.2.1
    · exact wpOp_mono (fun a' w' h' => by have := wpAnyC_tr hsel hL hQ z _ a' w' h3 h'; rw [hl2] at this; exact this) h.2.2.2
end
section
variable {P : Program} {ops : Array Oper} {Q : Exit → Act → World → Prop} {C : World → Prop} {r : MT} {a : Act} {w : World} {k : Nat} {o : Oper}
theorem wpTr_take {v : Value} (ho : ops[k]? = some o) (hw : Region.wanted o (yielded ops a.tmps) = true) (hy : ∀ w', C w' → (execOp a.eval o).run P w' = .ok (.value v) w')
    (h : wpTr P ops C Q r (a.put o.dst v) w) : wpTr P ops C Q (.take k r) a w := ⟨o, v, ho, fun w' hc => .inl ⟨hw, .inl (hy w' hc)⟩, h⟩
abbrev StepTr (P : Program) (ops : Array Oper) (C : World → Prop) (Q : Exit → Act → World → Prop) (r : MT) (o : Oper) (a : Act) (w : World) : Prop := ∀ K' : Act → World → Prop, (∀ a w, wpTr P ops C Q r a w → K' a w) → if Region.wanted o (yielded ops a.tmps) = true then Oper.wp P o a w K' Q else K' (a.put o.dst undef) w
theorem wpTr_one (ho : ops[k]? = some o) (hC : C w) (h : StepTr P ops C Q r o a w) : wpTr P ops C Q (.one k r) a w := ⟨hC, wpOp_step ho h⟩
theorem wpTr_two {n : Nat} {o2 : Oper} {y : MT} (ho : ops[k]? = some o) (ho2 : ops[n]? = some o2) (hC : C w) (h : StepTr P ops C Q r o a w) (h2 : StepTr P ops C Q y o2 a w) : wpTr P ops C Q (.two k n r y) a w := ⟨hC, wpOp_step ho h, wpOp_step ho2 h2⟩
theorem wpTr_three {n m : Nat} {o2 o3 : Oper} {y z : MT} (ho : ops[k]? = some o) (ho2 : ops[n]? = some o2) (ho3 : ops[m]? = some o3) (hC : C w) (h : StepTr P ops C Q r o a w) (h2 : StepTr P ops C Q y o2 a w) (h3 : StepTr P ops C Q z o3 a w) : wpTr P ops C Q (.three k n m r y z) a w := ⟨hC, wpOp_step ho h, wpOp_step ho2 h2, wpOp_step ho3 h3⟩
theorem wpTr_nil (hC : C w) (h : Q .normal a w) : wpTr P ops C Q .nil a w := ⟨hC, h⟩
theorem region_tr {id : Nat} {tr : MT} (C : World → Prop) (hm : P.follows .mixedOrders = true) (hsel : Region.noSelect ops = true) (hlen : tr.len = ops.size) (hB : tr.ok .any ops (Array.replicate ops.size false) = true)
    (h : ∀ PP : Act → World → Prop, (∀ a' w', Q .normal a' w' → PP a' w') → wpTr P ops C (onlyN PP) tr a w.drew) : (Code.region id ops true).wp P Q a w := by
  have hL : ¬ LetsOut (onlyN (Q .normal)) := by rintro ⟨_, _, h⟩; exact h
  have h1 := wpAny_of_c _ _ _ _ (wpAnyC_tr (md := .any) hsel hL (fun _ _ _ _ _ h => h) tr _ a _ hB (h (Q .normal) (fun _ _ h => h)))
  rw [hlen] at h1
  refine wp_mono (Q := onlyN (Q .normal)) (wp_region_any hm h1) ?_
  intro e a w h
  cases e
  case normal => exact h
  all_goals exact h.elim
end
end Go.Proofs.YtdjehbdpcdikkaaGreatDoor

namespace Go.Proofs.YtdjehbdpcdikkaaGreatDoor
open Go.RowKit Go.Maps

/-- A whole row is stored in a drawn region. -/
theorem store_drawn {P : Program} {ops : Array Oper} {o : Oper} {a : Act} {w : World} {K : Act → World → Prop} {Q : Exit → Act → World → Prop}
    (hg : o.guard = none) (ty : TypeId) (x y : Operand) (ho : o.op = .store ty x y) (b : Nat) (t : TypeId) (old cells : Array Value) (hx : a.eval x = .pointer (some ⟨b, 0, none⟩)) (hy : a.eval y = .agg cells)
    (hb : w.heap[b]? = some (.cells old t (0, 0))) (hi : (P.info? ty).map (·.size) = some cells.size) (hs : old.size = cells.size) (h1 : cells.all (·.oneCell') = true) (hK : K (a.put o.dst undef) (w.setRow b cells)) :
    if Region.wanted o (yielded ops a.tmps) = true then Oper.wp P o a w K Q else K (a.put o.dst undef) w := by
  have hw : Region.wanted o (yielded ops a.tmps) = true := by simp [Region.wanted, hg]
  rw [if_pos hw]
  unfold Oper.wp execOp
  simp only [ho, hx, hy, Instr.storeAt, Instr.sureAddr, Sem.run_bind, Sem.run_pure, Result.andThen_ok, run_storeVar_row w b t ty old cells hb hi hs h1]
  exact hK
/-- What a program's box and a fault's box are, once filled. -/
structure Bxd (X V2 : World) (p1 p2 : Nat) (c0 c1 c2 c3 c4 f0 f1 : Value) : Prop where
  b1 : V2.heap[p1]? = some (.cells #[c0, c1, c2, c3, c4] 28 (0, 0))
  b2 : V2.heap[p2]? = some (.cells #[f0, f1] 31 (0, 0))
  bel : Below X.heap.size X V2
theorem two_box {X V : World} {p1 p2 : Nat} {c0 c1 c2 c3 c4 f0 f1 : Value} (m1 : V.heap[p1]? = some pgZ) (m2 : V.heap[p2]? = some ftZ) (g1 : X.heap.size ≤ p1) (g2 : X.heap.size ≤ p2) (hb : Below X.heap.size X V) :
    Below X.heap.size X (V.setRow p1 #[c0, c1, c2, c3, c4]) ∧ (V.setRow p1 #[c0, c1, c2, c3, c4]).heap[p2]? = some ftZ ∧
      Bxd X ((V.setRow p1 #[c0, c1, c2, c3, c4]).setRow p2 #[f0, f1]) p1 p2 c0 c1 c2 c3 c4 f0 f1 ∧ ((V.setRow p1 #[c0, c1, c2, c3, c4]).setRow p2 #[f0, f1]).heap.size = V.heap.size ∧ ∀ k, k ≠ p1 → k ≠ p2 → ((V.setRow p1 #[c0, c1, c2, c3, c4]).setRow p2 #[f0, f1]).heap[k]? = V.heap[k]? := by
  have hne : p2 ≠ p1 := fun e => by
    rw [e, m1] at m2
    injection m2 with m2
    injection m2 with _ m2 _
    exact absurd m2 (by decide)
  have bs : ∀ (U : World) (p : Nat) (cs : Array Value), Below X.heap.size X U → X.heap.size ≤ p → Below X.heap.size X (U.setRow p cs) := fun U p cs hU hp => ⟨hU.os, hU.tape, hU.output, by rw [size_setRow]; exact hU.size, fun k hk => by rw [setRow_other U p k cs (by omega)]; exact hU.block k hk⟩
  have n2' : (V.setRow p1 #[c0, c1, c2, c3, c4]).heap[p2]? = some ftZ := by rw [setRow_other _ _ _ _ hne]; exact m2
  have n1' := setRow_heap V p1 _ #[c0, c1, c2, c3, c4] _ _ m1
  refine ⟨bs _ _ _ hb g1, n2', ⟨?_, setRow_heap _ _ _ _ _ _ n2', bs _ _ _ (bs _ _ _ hb g1) g2⟩, by rw [size_setRow, size_setRow], fun k h1 h2 => by rw [setRow_other _ _ _ _ h2, setRow_other _ _ _ _ h1]⟩
  rw [setRow_other _ _ _ _ (Ne.symm hne)]
  exact n1'
/-- A program in memory, where other blocks are written. -/
theorem PgS.move {S S' : Nat → Prop} {w w' : World} {cs : List Value} {p : Pg} (h : PgS S w cs p) (hs : w.heap.size ≤ w'.heap.size) (hS : ∀ b, b < w.heap.size → S b → w'.heap[b]? = w.heap[b]?) (hS' : ∀ b, S b → S' b) : PgS S' w' cs p := by
  have h1 := pgS_ok.mono S (fun b => S b ∧ b < w.heap.size) w cs p h (fun b hl hb => ⟨hb, hl⟩)
  have h2 := pgS_ok.same _ w w' cs p h1 hs (fun b hb _ => hS b hb.2 hb.1)
  exact pgS_ok.mono _ S' w' cs p h2 (fun b _ hb => hS' b hb.1)
end Go.Proofs.YtdjehbdpcdikkaaGreatDoor

namespace Go.Proofs.YtdjehbdpcdikkaaGreatDoor
open Go.RowKit Go.Maps

set_option maxRecDepth 100000 in
set_option maxHeartbeats 8000000 in
theorem rSameExpr_ch {w : World} {xk xm xat : Int} {xt : Txt} {xa : Option Addr} {xn xc : Nat} {yk ym yat : Int} {yt : Txt} {ya : Option Addr} {yn yc : Nat} {s0 s1 s2 s3 s4 : Bool} (h0 : s0 = decide (xk = yk)) (h1 : s1 = decide (xm = ym)) (h2 : s2 = decide (xt = yt)) (h3 : ∀ w', Below w.heap.size w w' → Calls Tryz.prog 36 #[.int .i64 xat, .int .i64 yat, .bool false] w' fun en w2 => en = .returned (.bool s3) ∧ Below w'.heap.size w' w2) (h4 : ∀ w', Below w.heap.size w w' → Calls Tryz.prog 96 #[.slice xa xn xc, .slice ya yn yc, .bool false] w' fun en w2 => en = .returned (.bool s4) ∧ Below w'.heap.size w' w2) :
    Calls Tryz.prog 71 #[.agg #[.int .i64 xk, .int .i64 xm, str xt, .slice xa xn xc, .int .i64 xat], .agg #[.int .i64 yk, .int .i64 ym, str yt, .slice ya yn yc, .int .i64 yat], .bool false] w fun en w' => en = .returned (.bool (s0 && s1 && s2 && s3 && s4)) ∧ Below w.heap.size w w' := by
  have B0 : Hid (Below w.heap.size w ((w.alloc (.cells #[.int .i64 xk, .int .i64 xm, str xt, .slice xa xn xc, .int .i64 xat] 90)).alloc (.cells #[.int .i64 yk, .int .i64 ym, str yt, .slice ya yn yc, .int .i64 yat] 90)) ∧ ((w.alloc (.cells #[.int .i64 xk, .int .i64 xm, str xt, .slice xa xn xc, .int .i64 xat] 90)).alloc (.cells #[.int .i64 yk, .int .i64 ym, str yt, .slice ya yn yc, .int .i64 yat] 90)).heap[w.heap.size]? = some (.cells #[.int .i64 xk, .int .i64 xm, str xt, .slice xa xn xc, .int .i64 xat] 90 (0, 0)) ∧ ((w.alloc (.cells #[.int .i64 xk, .int .i64 xm, str xt, .slice xa xn xc, .int .i64 xat] 90)).alloc (.cells #[.int .i64 yk, .int .i64 ym, str yt, .slice ya yn yc, .int .i64 yat] 90)).heap[w.heap.size + 1]? = some (.cells #[.int .i64 yk, .int .i64 ym, str yt, .slice ya yn yc, .int .i64 yat] 90 (0, 0))) := by
    refine ⟨((Below.refl _ w).alloc (Nat.le_refl _) _).alloc (by simp) _, ?_, ?_⟩
    · rw [Below.heap_alloc _ _ _ (by simp)]; exact heap_alloc_new w _
    · have := heap_alloc_new (w.alloc (.cells #[.int .i64 xk, .int .i64 xm, str xt, .slice xa xn xc, .int .i64 xat] 90)) (.cells #[.int .i64 yk, .int .i64 ym, str yt, .slice ya yn yc, .int .i64 yat] 90)
      rw [show (w.alloc (.cells #[.int .i64 xk, .int .i64 xm, str xt, .slice xa xn xc, .int .i64 xat] 90)).heap.size = w.heap.size + 1 by simp] at this
      exact this
  have H0 := hide h0
  have H1 := hide h1
  have H2 := hide h2
  have H3 := hide h3
  have H4 := hide h4
  clear h0 h1 h2 h3 h4
  cases s0 with
  | false =>
    have g0 : (xk == yk) = false := by simpa using unhide H0
    go_enter Tryz.func71, Tryz.ntmps71
    go_wp2_with fail
    go_ret
    exact ⟨rfl, (unhide B0).1⟩
  | true =>
    have g0 : (xk == yk) = true := by simpa using unhide H0
    cases s1 with
    | false =>
      have g1 : (xm == ym) = false := by simpa using unhide H1
      go_enter Tryz.func71, Tryz.ntmps71
      go_wp2_with fail
      go_ret
      exact ⟨rfl, (unhide B0).1⟩
    | true =>
      have g1 : (xm == ym) = true := by simpa using unhide H1
      cases s2 with
      | false =>
        have g2 : (xt == yt) = false := by simpa using unhide H2
        go_enter Tryz.func71, Tryz.ntmps71
        go_wp2_with fail
        go_ret
        exact ⟨rfl, (unhide B0).1⟩
      | true =>
        have g2 : (xt == yt) = true := by simpa using unhide H2
        go_enter Tryz.func71, Tryz.ntmps71
        have hcl := unhide H3 _ (unhide B0).1
        go_wp2_with fail
        refine hcl.mono ?_
        clear hcl
        rintro en w3 ⟨rfl, b3⟩
        obtain ⟨bb, na, nb⟩ := unhide B0
        have na3 := (b3.block _ (lt_hp na)).trans na
        have nb3 := (b3.block _ (lt_hp nb)).trans nb
        have BB3 := hide (And.intro (bb.trans (b3.mono bb.size)) (And.intro na3 nb3))
        obtain ⟨x_0, x_1, x_2, x_3, x_4, xf⟩ := cl5 na3
        obtain ⟨y_0, y_1, y_2, y_3, y_4, yf⟩ := cl5 nb3
        clear bb na nb b3 na3 nb3
        cases s3 with
        | false =>
          go_wp2_with fail
          go_ret
          exact ⟨rfl, (unhide BB3).1⟩
        | true =>
          have hcl := unhide H4 _ (unhide BB3).1
          go_wp2_with fail
          refine hcl.mono ?_
          clear hcl
          rintro en w4 ⟨rfl, b4⟩
          obtain ⟨bb, na, nb⟩ := unhide BB3
          have na4 := (b4.block _ (lt_hp na)).trans na
          have nb4 := (b4.block _ (lt_hp nb)).trans nb
          have BB4 := hide (And.intro (bb.trans (b4.mono bb.size)) (And.intro na4 nb4))
          obtain ⟨x_0, x_1, x_2, x_3, x_4, xf⟩ := cl5 na4
          obtain ⟨y_0, y_1, y_2, y_3, y_4, yf⟩ := cl5 nb4
          clear bb na nb b4 na4 nb4
          cases s4 with
          | false =>
            go_wp2_with fail
            go_ret
            exact ⟨rfl, (unhide BB4).1⟩
          | true =>
            go_wp2_with fail
            go_ret
            exact ⟨rfl, (unhide BB4).1⟩
end Go.Proofs.YtdjehbdpcdikkaaGreatDoor

namespace Go.Proofs.YtdjehbdpcdikkaaGreatDoor
open Go.RowKit Go.Maps

set_option maxRecDepth 100000 in
set_option maxHeartbeats 8000000 in
theorem rSameAtom_ch {w : World} {xat : Int} {xt : Txt} {xa : Option Addr} {xn xc : Nat} {yat : Int} {yt : Txt} {ya : Option Addr} {yn yc : Nat} {s0 s1 s2 : Bool} (h0 : s0 = decide (xt = yt)) (h1 : ∀ w', Below w.heap.size w w' → Calls Tryz.prog 36 #[.int .i64 xat, .int .i64 yat, .bool false] w' fun en w2 => en = .returned (.bool s1) ∧ Below w'.heap.size w' w2) (h2 : ∀ w', Below w.heap.size w w' → Calls Tryz.prog 96 #[.slice xa xn xc, .slice ya yn yc, .bool false] w' fun en w2 => en = .returned (.bool s2) ∧ Below w'.heap.size w' w2) :
    Calls Tryz.prog 70 #[.agg #[str xt, .slice xa xn xc, .int .i64 xat], .agg #[str yt, .slice ya yn yc, .int .i64 yat], .bool false] w fun en w' => en = .returned (.bool (s0 && s1 && s2)) ∧ Below w.heap.size w w' := by
  have B0 : Hid (Below w.heap.size w ((w.alloc (.cells #[str xt, .slice xa xn xc, .int .i64 xat] 79)).alloc (.cells #[str yt, .slice ya yn yc, .int .i64 yat] 79)) ∧ ((w.alloc (.cells #[str xt, .slice xa xn xc, .int .i64 xat] 79)).alloc (.cells #[str yt, .slice ya yn yc, .int .i64 yat] 79)).heap[w.heap.size]? = some (.cells #[str xt, .slice xa xn xc, .int .i64 xat] 79 (0, 0)) ∧ ((w.alloc (.cells #[str xt, .slice xa xn xc, .int .i64 xat] 79)).alloc (.cells #[str yt, .slice ya yn yc, .int .i64 yat] 79)).heap[w.heap.size + 1]? = some (.cells #[str yt, .slice ya yn yc, .int .i64 yat] 79 (0, 0))) := by
    refine ⟨((Below.refl _ w).alloc (Nat.le_refl _) _).alloc (by simp) _, ?_, ?_⟩
    · rw [Below.heap_alloc _ _ _ (by simp)]; exact heap_alloc_new w _
    · have := heap_alloc_new (w.alloc (.cells #[str xt, .slice xa xn xc, .int .i64 xat] 79)) (.cells #[str yt, .slice ya yn yc, .int .i64 yat] 79)
      rw [show (w.alloc (.cells #[str xt, .slice xa xn xc, .int .i64 xat] 79)).heap.size = w.heap.size + 1 by simp] at this
      exact this
  have H0 := hide h0
  have H1 := hide h1
  have H2 := hide h2
  clear h0 h1 h2
  cases s0 with
  | false =>
    have g0 : (xt == yt) = false := by simpa using unhide H0
    go_enter Tryz.func70, Tryz.ntmps70
    go_wp2_with fail
    go_ret
    exact ⟨rfl, (unhide B0).1⟩
  | true =>
    have g0 : (xt == yt) = true := by simpa using unhide H0
    go_enter Tryz.func70, Tryz.ntmps70
    have hcl := unhide H1 _ (unhide B0).1
    go_wp2_with fail
    refine hcl.mono ?_
    clear hcl
    rintro en w1 ⟨rfl, b1⟩
    obtain ⟨bb, na, nb⟩ := unhide B0
    have na1 := (b1.block _ (lt_hp na)).trans na
    have nb1 := (b1.block _ (lt_hp nb)).trans nb
    have BB1 := hide (And.intro (bb.trans (b1.mono bb.size)) (And.intro na1 nb1))
    obtain ⟨x_0, x_1, x_2, xf⟩ := cl3 na1
    obtain ⟨y_0, y_1, y_2, yf⟩ := cl3 nb1
    clear bb na nb b1 na1 nb1
    cases s1 with
    | false =>
      go_wp2_with fail
      go_ret
      exact ⟨rfl, (unhide BB1).1⟩
    | true =>
      have hcl := unhide H2 _ (unhide BB1).1
      go_wp2_with fail
      refine hcl.mono ?_
      clear hcl
      rintro en w2 ⟨rfl, b2⟩
      obtain ⟨bb, na, nb⟩ := unhide BB1
      have na2 := (b2.block _ (lt_hp na)).trans na
      have nb2 := (b2.block _ (lt_hp nb)).trans nb
      have BB2 := hide (And.intro (bb.trans (b2.mono bb.size)) (And.intro na2 nb2))
      obtain ⟨x_0, x_1, x_2, xf⟩ := cl3 na2
      obtain ⟨y_0, y_1, y_2, yf⟩ := cl3 nb2
      clear bb na nb b2 na2 nb2
      cases s2 with
      | false =>
        go_wp2_with fail
        go_ret
        exact ⟨rfl, (unhide BB2).1⟩
      | true =>
        go_wp2_with fail
        go_ret
        exact ⟨rfl, (unhide BB2).1⟩
end Go.Proofs.YtdjehbdpcdikkaaGreatDoor

namespace Go.Proofs.YtdjehbdpcdikkaaGreatDoor
open Go.RowKit Go.Maps


set_option maxRecDepth 100000 in
set_option maxHeartbeats 8000000 in
theorem requal_f {S : Nat → Prop} {w : World} {va vb : Value} {xs ys : List Fld} (ha : LsAt PF 2 S w va xs) (hb : LsAt PF 2 S w vb ys) :
    Calls Tryz.prog 68 #[va, vb] w fun en w' => en = .returned (.bool (eqL eqFd xs ys)) ∧ Below w.heap.size w w' := by
  obtain ⟨a1, p1, e1⟩ := ha.sl
  obtain ⟨a2, p2, e2⟩ := hb.sl
  have hm1 : xs.length ≤ p1 ∧ p1 ≤ maxLen := by
    obtain ⟨_, _, _, e, h1, h2, _⟩ := ha
    rw [e] at e1
    cases e1
    exact ⟨h1, h2⟩
  have hm2 : ys.length ≤ p2 ∧ p2 ≤ maxLen := by
    obtain ⟨_, _, _, e, h1, h2, _⟩ := hb
    rw [e] at e2
    cases e2
    exact ⟨h1, h2⟩
  unfold maxLen at hm1 hm2
  obtain ⟨n1, hn1⟩ : ∃ n, xs.length = n := ⟨_, rfl⟩
  obtain ⟨n2, hn2⟩ : ∃ n, ys.length = n := ⟨_, rfl⟩
  rw [hn1] at e1 hm1
  rw [hn2] at e2 hm2
  obtain ⟨hc1, hc2⟩ := hm1
  obtain ⟨hc3, hc4⟩ := hm2
  have HA := hide (And.intro ha (And.intro hb (And.intro hn1 hn2)))
  have HV := hide (And.intro e1 e2)
  rw [e1, e2]
  clear ha hb e1 e2 hn1 hn2
  by_cases hlen : n1 = n2
  · subst hlen
    go_enter Tryz.func68, Tryz.ntmps68
    go_wp2_with fail
    go_loopw [5] (fun i wr => ∃ j : Nat, i = .int .i64 (j : Int) ∧ j ≤ n1 ∧ Hid (Below w.heap.size w wr ∧ ∀ q x y, q < j → xs[q]? = some x → ys[q]? = some y → eqFd x y = true)) (fun i _ => n1 - (intOf i).toNat)
    case atStart => exact ⟨0, rfl, Nat.zero_le _, hide ⟨Below.refl _ _, fun q _ _ hq => absurd hq (Nat.not_lt_zero _)⟩⟩
    case round =>
      obtain ⟨j, rfl, hj, HB⟩ := hrel
      by_cases hlt : j < n1
      · obtain ⟨ha, hb, hn1, hn2⟩ := unhide HA
        obtain ⟨bw, hall⟩ := unhide HB
        obtain ⟨x, hx⟩ : ∃ x, xs[j]? = some x := ⟨xs[j]'(by omega), List.getElem?_eq_getElem _⟩
        obtain ⟨y, hy⟩ : ∃ y, ys[j]? = some y := ⟨ys[j]'(by omega), List.getElem?_eq_getElem _⟩
        obtain ⟨b1, q1, cs1, ev1, hb1, _, hl1, hp1, hc1'⟩ := (ha.later pf_ok bw).elem hx
        obtain ⟨b2, q2, cs2, ev2, hb2, _, hl2, hp2, hc2'⟩ := (hb.later pf_ok bw).elem hy
        have hp1 : cs1 = [str x.name, str x.type] := hp1
        have hp2 : cs2 = [str y.name, str y.type] := hp2
        subst hp1
        subst hp2
        rw [(unhide HV).1, hn1] at ev1
        rw [(unhide HV).2, hn2] at ev2
        simp only [Value.slice.injEq] at ev1 ev2
        obtain ⟨rfl, -, -⟩ := ev1
        obtain ⟨rfl, -, -⟩ := ev2
        have x_0 : wr.cell? ⟨b1, j * 2, none⟩ = some (str x.name) := hc1' 0 _ rfl
        have y_0 : wr.cell? ⟨b2, j * 2, none⟩ = some (str y.name) := hc2' 0 _ rfl
        have x_1 : wr.cell? ⟨b1, j * 2 + 1, none⟩ = some (str x.type) := hc1' 1 _ rfl
        have y_1 : wr.cell? ⟨b2, j * 2 + 1, none⟩ = some (str y.type) := hc2' 1 _ rfl
        clear ha hb hc1' hc2' hl1 hl2 hn1 hn2 HA HV HB
        by_cases e0 : x.name = y.name
        · have g0 : (x.name == y.name) = true := by simpa using e0
          by_cases e1 : x.type = y.type
          · have g1 : (x.type == y.type) = true := by simpa using e1
            have HF := hide (And.intro hx (And.intro hy (And.intro hall (And.intro bw (show eqFd x y = true by unfold eqFd; simp [e0, e1])))))
            clear hx hy hall bw e0 e1
            go_wp2_with fail
            go_region
            all_goals
              go_wp2_with fail
              go_roundw
              case rel =>
                obtain ⟨hx, hy, hall, bw, hr⟩ := unhide HF
                refine ⟨j + 1, by go_num, by omega, hide ⟨bw.drew, fun q x' y' hq hx' hy' => ?_⟩⟩
                by_cases e : q = j
                · subst e
                  rw [hx] at hx'
                  rw [hy] at hy'
                  cases hx'
                  cases hy'
                  exact hr
                · exact hall q x' y' (by omega) hx' hy'
              case measure => simp [intOf]; omega
          · have g1 : (x.type == y.type) = false := by simpa using e1
            have HF := hide (And.intro hx (And.intro hy (And.intro hall (And.intro bw (show eqFd x y = false by unfold eqFd; simp [e0, e1])))))
            clear hx hy hall bw e0 e1
            go_wp2_with fail
            go_region
            all_goals
              go_wp2_with fail
              go_ret
              obtain ⟨hx, hy, hall, bw, hr⟩ := unhide HF
              exact ⟨by rw [eqL_false hx hy hr]; rfl, bw.drew⟩
        · have g0 : (x.name == y.name) = false := by simpa using e0
          have HF := hide (And.intro hx (And.intro hy (And.intro hall (And.intro bw (show eqFd x y = false by unfold eqFd; simp [e0])))))
          clear hx hy hall bw e0
          go_wp2_with fail
          go_region
          all_goals
            go_wp2_with fail
            go_ret
            obtain ⟨hx, hy, hall, bw, hr⟩ := unhide HF
            exact ⟨by rw [eqL_false hx hy hr]; rfl, bw.drew⟩
      · obtain ⟨bw, hall⟩ := unhide HB
        have HF := hide (And.intro bw hall)
        clear bw hall HB
        go_wp2_with fail
        go_ret
        obtain ⟨bw, hall⟩ := unhide HF
        obtain ⟨_, _, hn1, hn2⟩ := unhide HA
        exact ⟨by rw [eqL_true (by omega) (fun q x' y' hx' hy' => hall q x' y' (by have := (List.getElem?_eq_some_iff.1 hx').1; omega) hx' hy')]; rfl, bw⟩
  · have hne : ((n1 : Int) != (n2 : Int)) = true := by simp; omega
    go_enter Tryz.func68, Tryz.ntmps68
    go_wp2_with fail
    go_ret
    obtain ⟨_, _, hn1, hn2⟩ := unhide HA
    exact ⟨by rw [eqL_len (by omega)]; rfl, Below.refl _ _⟩
end Go.Proofs.YtdjehbdpcdikkaaGreatDoor

namespace Go.Proofs.YtdjehbdpcdikkaaGreatDoor
open Go.RowKit Go.Maps


set_option maxRecDepth 100000 in
set_option maxHeartbeats 8000000 in
theorem requal_s {S : Nat → Prop} {w : World} {va vb : Value} {xs ys : List Txt} (ha : LsAt PSt 1 S w va xs) (hb : LsAt PSt 1 S w vb ys) :
    Calls Tryz.prog 69 #[va, vb] w fun en w' => en = .returned (.bool (eqL eqTx xs ys)) ∧ Below w.heap.size w w' := by
  obtain ⟨a1, p1, e1⟩ := ha.sl
  obtain ⟨a2, p2, e2⟩ := hb.sl
  have hm1 : xs.length ≤ p1 ∧ p1 ≤ maxLen := by
    obtain ⟨_, _, _, e, h1, h2, _⟩ := ha
    rw [e] at e1
    cases e1
    exact ⟨h1, h2⟩
  have hm2 : ys.length ≤ p2 ∧ p2 ≤ maxLen := by
    obtain ⟨_, _, _, e, h1, h2, _⟩ := hb
    rw [e] at e2
    cases e2
    exact ⟨h1, h2⟩
  unfold maxLen at hm1 hm2
  obtain ⟨n1, hn1⟩ : ∃ n, xs.length = n := ⟨_, rfl⟩
  obtain ⟨n2, hn2⟩ : ∃ n, ys.length = n := ⟨_, rfl⟩
  rw [hn1] at e1 hm1
  rw [hn2] at e2 hm2
  obtain ⟨hc1, hc2⟩ := hm1
  obtain ⟨hc3, hc4⟩ := hm2
  have HA := hide (And.intro ha (And.intro hb (And.intro hn1 hn2)))
  have HV := hide (And.intro e1 e2)
  rw [e1, e2]
  clear ha hb e1 e2 hn1 hn2
  by_cases hlen : n1 = n2
  · subst hlen
    go_enter Tryz.func69, Tryz.ntmps69
    go_wp2_with fail
    go_loopw [5] (fun i wr => ∃ j : Nat, i = .int .i64 (j : Int) ∧ j ≤ n1 ∧ Hid (Below w.heap.size w wr ∧ ∀ q x y, q < j → xs[q]? = some x → ys[q]? = some y → eqTx x y = true)) (fun i _ => n1 - (intOf i).toNat)
    case atStart => exact ⟨0, rfl, Nat.zero_le _, hide ⟨Below.refl _ _, fun q _ _ hq => absurd hq (Nat.not_lt_zero _)⟩⟩
    case round =>
      obtain ⟨j, rfl, hj, HB⟩ := hrel
      by_cases hlt : j < n1
      · obtain ⟨ha, hb, hn1, hn2⟩ := unhide HA
        obtain ⟨bw, hall⟩ := unhide HB
        obtain ⟨x, hx⟩ : ∃ x, xs[j]? = some x := ⟨xs[j]'(by omega), List.getElem?_eq_getElem _⟩
        obtain ⟨y, hy⟩ : ∃ y, ys[j]? = some y := ⟨ys[j]'(by omega), List.getElem?_eq_getElem _⟩
        obtain ⟨b1, q1, cs1, ev1, hb1, _, hl1, hp1, hc1'⟩ := (ha.later pst_ok bw).elem hx
        obtain ⟨b2, q2, cs2, ev2, hb2, _, hl2, hp2, hc2'⟩ := (hb.later pst_ok bw).elem hy
        have hp1 : cs1 = [str x] := hp1
        have hp2 : cs2 = [str y] := hp2
        subst hp1
        subst hp2
        rw [(unhide HV).1, hn1] at ev1
        rw [(unhide HV).2, hn2] at ev2
        simp only [Value.slice.injEq] at ev1 ev2
        obtain ⟨rfl, -, -⟩ := ev1
        obtain ⟨rfl, -, -⟩ := ev2
        simp only [Nat.mul_one] at hc1' hc2'
        have x_0 : wr.cell? ⟨b1, j, none⟩ = some (str x) := hc1' 0 _ rfl
        have y_0 : wr.cell? ⟨b2, j, none⟩ = some (str y) := hc2' 0 _ rfl
        clear ha hb hc1' hc2' hl1 hl2 hn1 hn2 HA HV HB
        by_cases e0 : x = y
        · have g0 : (x == y) = true := by simpa using e0
          have HF := hide (And.intro hx (And.intro hy (And.intro hall (And.intro bw (show eqTx x y = true by unfold eqTx; simp [e0])))))
          clear hx hy hall bw e0
          go_wp2_with fail
          go_region
          all_goals
            go_wp2_with fail
            go_roundw
            case rel =>
              obtain ⟨hx, hy, hall, bw, hr⟩ := unhide HF
              refine ⟨j + 1, by go_num, by omega, hide ⟨bw.drew, fun q x' y' hq hx' hy' => ?_⟩⟩
              by_cases e : q = j
              · subst e
                rw [hx] at hx'
                rw [hy] at hy'
                cases hx'
                cases hy'
                exact hr
              · exact hall q x' y' (by omega) hx' hy'
            case measure => simp [intOf]; omega
        · have g0 : (x == y) = false := by simpa using e0
          have HF := hide (And.intro hx (And.intro hy (And.intro hall (And.intro bw (show eqTx x y = false by unfold eqTx; simp [e0])))))
          clear hx hy hall bw e0
          go_wp2_with fail
          go_region
          all_goals
            go_wp2_with fail
            go_ret
            obtain ⟨hx, hy, hall, bw, hr⟩ := unhide HF
            exact ⟨by rw [eqL_false hx hy hr]; rfl, bw.drew⟩
      · obtain ⟨bw, hall⟩ := unhide HB
        have HF := hide (And.intro bw hall)
        clear bw hall HB
        go_wp2_with fail
        go_ret
        obtain ⟨bw, hall⟩ := unhide HF
        obtain ⟨_, _, hn1, hn2⟩ := unhide HA
        exact ⟨by rw [eqL_true (by omega) (fun q x' y' hx' hy' => hall q x' y' (by have := (List.getElem?_eq_some_iff.1 hx').1; omega) hx' hy')]; rfl, bw⟩
  · have hne : ((n1 : Int) != (n2 : Int)) = true := by simp; omega
    go_enter Tryz.func69, Tryz.ntmps69
    go_wp2_with fail
    go_ret
    obtain ⟨_, _, hn1, hn2⟩ := unhide HA
    exact ⟨by rw [eqL_len (by omega)]; rfl, Below.refl _ _⟩
end Go.Proofs.YtdjehbdpcdikkaaGreatDoor
