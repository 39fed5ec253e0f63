/- backCon's loop: an Arg that came back is appended. backCon: what it answers, behind its loop. -/
import Derived.Test.YtpiehfjgokfdeaaDoorBackRS
import Derived.Maps.AppendAt
namespace Go.Proofs.YtpiehfjgokfdeaaDoor
open Go.RowKit Go.Maps

theorem infoVal : (Tryd.prog.info? 24).map (fun i => (i.zero, i.size, i.bytes)) = some (some (.agg #[.int .i64 0, .int .i64 0, .string ⟨#[]⟩, .slice none 0 0]), 4, 56) := by kernel_rfl

/-- The four cells of a value. -/
def V.row (u : V) : List Value := [.int .i64 u.kind, .int .i64 u.num, .string u.str, .slice u.addr u.len u.cap]
theorem cellsTo_len (us : Nat → V) : ∀ k, (cellsTo us k).length = k * 4
  | 0 => rfl
  | k + 1 => by simp [cellsTo, cellsTo_len us k]; omega
theorem cellsTo_congr {us vs : Nat → V} : ∀ k, (∀ i, i < k → us i = vs i) → cellsTo us k = cellsTo vs k
  | 0, _ => rfl
  | k + 1, h => by simp only [cellsTo]; rw [cellsTo_congr k (fun i hi => h i (by omega)), h k (by omega)]
theorem cellsTo_at (us : Nat → V) : ∀ k i, i < k → ∀ q, q < 4 → (cellsTo us k)[i * 4 + q]? = (us i).row[q]?
  | 0, i, hi, _, _ => by omega
  | k + 1, i, hi, q, hq => by
    have hl := cellsTo_len us k
    simp only [cellsTo]
    by_cases e : i = k
    · subst e
      rw [List.getElem?_append_right (by omega), hl, show i * 4 + q - i * 4 = q by omega]; rfl
    · rw [List.getElem?_append_left (by omega)]
      exact cellsTo_at us k i (by omega) q hq

/-- 'append' of one value to a row that was made since: where the new row lies. -/
theorem wpList_append_val (w : World) {ops : Array Oper} {rest : List Oper} {o : Oper} {a : Act} {Q : Exit → Act → World → Prop} (hgd : o.guard = none) (s x : Operand)
    (ho : o.op = .call { callee := .builtin .append, args := #[s, x], argTypes := #[22, 22] }) (base : Nat)
    (v : Value) (n : Nat) (xs : List Value) (hs : a.eval s = v) (hown : w.ownsRow base 24 4 v n xs) (ad : Addr) (c : Nat) (u : V) (hx : a.eval x = .slice (some ad) 1 c)
    (hc : ∀ j y, u.row[j]? = some y → w.cell? (ad.add j) = some y) (hbytes : (n + 1) * 56 ≤ 140737488355328) (hbase : base ≤ w.heap.size)
    (h : ∀ v' w', w'.ownsRow base 24 4 v' (n + 1) (xs ++ u.row) → w.grownBy w' v.ownBlock → (v'.ownBlock = v.ownBlock ∨ v'.ownBlock = some w.heap.size) → wpList Tryd.prog ops Q rest (a.put o.dst v') w') :
    wpList Tryd.prog ops Q (o :: rest) a w := by
  obtain ⟨i0, hi, hz0, hz1, hz2⟩ := info_parts infoVal
  refine wpList_plain hgd fun K hK => ?_
  obtain ⟨v', w', hr, h2, h3, _, h5⟩ := run_append_own_at (P := Tryd.prog) w base 22 o.type 24 i0 _ 4 56 Tryd.underlying22 hi hz0 hz1 hz2 rfl (by decide) v n _ hown ad 1 c u.row rfl hc
    (fun y hy => by
      simp only [V.row, List.mem_cons, List.not_mem_nil, or_false] at hy
      rcases hy with rfl | rfl | rfl | rfl <;> rfl) (by unfold maxLen; omega) hbytes hbase
  unfold Oper.wp execOp
  simp only [ho, resolve, invoke, builtin, Sem.run_bind, Sem.run_pure, Result.andThen_ok, List.map_toArray, List.map_cons, List.map_nil, hs, hx, hr]
  exact hK _ _ (h v' w' h2 h3 h5)

/-- An Arg came back, into a box of its own. -/
structure Made (wr w3 : World) (g : Nat) (u x : V) : Prop where
  below : Below wr.heap.size wr w3
  box : CellsAt w3 g 0 u
  ge : wr.heap.size ≤ g
  at_ : u.At w3.heap.size w3
  like : u.ord x = 0
  far : ∀ q, u.uses q → wr.heap.size ≤ q

/-- What is written into a new block of four. -/
theorem four_old {w : World} {g : Nat} {z u : V} (h : w.heap[g]? = some z.obj) : CellsAt ((((w.setCell ⟨g, 0, none⟩ (.int .i64 u.kind)).setCell ⟨g, 1, none⟩ (.int .i64 u.num)).setCell ⟨g, 2, none⟩ (.string u.str)).setCell ⟨g, 3, none⟩ (.slice u.addr u.len u.cap)) g 0 u := by
  constructor <;> simp [World.cell?, World.setCell, h, V.obj, Array.getElem?_modify]
theorem four_new (w : World) (u z : V) : CellsAt (((((w.alloc z.obj).setCell ⟨w.heap.size, 0, none⟩ (.int .i64 u.kind)).setCell ⟨w.heap.size, 1, none⟩ (.int .i64 u.num)).setCell ⟨w.heap.size, 2, none⟩ (.string u.str)).setCell ⟨w.heap.size, 3, none⟩ (.slice u.addr u.len u.cap)) w.heap.size 0 u :=
  four_old (World.alloc_heap_new w z.obj)

/-- A box of zeros that was made ahead of a call. -/
theorem box_facts {X w2 : World} (b : Below (X.alloc (.cells #[.int .i64 0, .int .i64 0, .string ⟨#[]⟩, .slice none 0 0] 24)).drew.heap.size (X.alloc (.cells #[.int .i64 0, .int .i64 0, .string ⟨#[]⟩, .slice none 0 0] 24)).drew w2) :
    w2.cell? ⟨X.heap.size, 0, none⟩ = some (.int .i64 0) ∧ w2.cell? ⟨X.heap.size, 1, none⟩ = some (.int .i64 0) ∧ w2.cell? ⟨X.heap.size, 2, none⟩ = some (.string ⟨#[]⟩) ∧ w2.cell? ⟨X.heap.size, 3, none⟩ = some (.slice none 0 0) ∧ ∀ o, w2.frozen? ⟨X.heap.size, o, none⟩ = false := by
  have hob : w2.heap[X.heap.size]? = some V.none.obj := (b.block X.heap.size (by show _ < (X.alloc _).heap.size; simp)).trans (World.alloc_heap_new X _)
  refine ⟨?_, ?_, ?_, ?_, fun o => ?_⟩ <;> simp [World.cell?, World.frozen?, hob, V.obj, V.kind, V.num, V.str, V.addr, V.len, V.cap]
/-- The call first, then the box. -/
theorem made_after {wr w2 : World} {u x : V} (b2 : Below wr.drew.heap.size wr.drew w2) (hu : u.At w2.heap.size w2) (hul : u.ord x = 0) (huf : ∀ k, u.uses k → wr.drew.heap.size ≤ k) :
    Made wr (w2.alloc u.obj) w2.heap.size u x := by
  have b0 : Below wr.heap.size wr w2 := (Below.refl _ wr).drew.trans b2
  exact ⟨b0.alloc b0.size _, boxed w2 u, b0.size, (hu.below (below_box w2 _)).more (by simp) _, hul, huf⟩
/-- The box first, then the call. -/
theorem made_before {wr w2 : World} {u x : V} (b2 : Below (wr.alloc (.cells #[.int .i64 0, .int .i64 0, .string ⟨#[]⟩, .slice none 0 0] 24)).drew.heap.size (wr.alloc (.cells #[.int .i64 0, .int .i64 0, .string ⟨#[]⟩, .slice none 0 0] 24)).drew w2) (hu : u.At w2.heap.size w2) (hul : u.ord x = 0) (huf : ∀ k, u.uses k → (wr.alloc (.cells #[.int .i64 0, .int .i64 0, .string ⟨#[]⟩, .slice none 0 0] 24)).drew.heap.size ≤ k) :
    Made wr ((((w2.setCell ⟨wr.heap.size, 0, none⟩ (.int .i64 u.kind)).setCell ⟨wr.heap.size, 1, none⟩ (.int .i64 u.num)).setCell ⟨wr.heap.size, 2, none⟩ (.string u.str)).setCell ⟨wr.heap.size, 3, none⟩ (.slice u.addr u.len u.cap)) wr.heap.size u x := by
  have hsz : (wr.alloc (.cells #[.int .i64 0, .int .i64 0, .string ⟨#[]⟩, .slice none 0 0] 24)).drew.heap.size = wr.heap.size + 1 := by show (wr.alloc _).heap.size = _; simp
  rw [hsz] at huf
  have b0 : Below wr.heap.size wr w2 := (below_box wr _).drew.trans (b2.mono (by rw [hsz]; omega))
  have hob : w2.heap[wr.heap.size]? = some V.none.obj := (b2.block wr.heap.size (by rw [hsz]; omega)).trans (World.alloc_heap_new wr _)
  have t := turn_four w2 wr.heap.size (.int .i64 u.kind) (.int .i64 u.num) (.string u.str) (.slice u.addr u.len u.cap)
  refine ⟨(((b0.setCell (Nat.le_refl _) _).setCell (Nat.le_refl _) _).setCell (Nat.le_refl _) _).setCell (Nat.le_refl _) _, four_old hob, Nat.le_refl _, ?_, hul, fun k hk => by have := huf k hk; omega⟩
  exact (V.At.turn' t u hu (fun k hk e => by have := huf k hk; omega)).more t.size _
/-- Behind the append, ahead of the store. -/
theorem bl_mid {W wr wc w5 : World} {v : V} {sl : Value} {ob : Obj} {k : Nat} {us : Nat → V} (hsz : W.heap.size + 3 ≤ wr.heap.size) (hbx : wr.heap[W.heap.size + 1 + 1]? = some (.cells #[.int .i64 3, .int .i64 0, .string v.str, sl] 24 (0, 0)))
    (hrow : wr.ownsRow (W.heap.size + 3) 24 4 sl k (cellsTo us k)) (hM : Below wr.heap.size wr wc) (g5 : (wc.alloc ob).grownBy w5 sl.ownBlock) :
    w5.heap[W.heap.size + 1 + 1]? = some (.cells #[.int .i64 3, .int .i64 0, .string v.str, sl] 24 (0, 0)) := by
  have b1 : Below wr.heap.size wr (wc.alloc ob) := hM.alloc hM.size _
  have hs := b1.size
  rw [g5.block _ (by omega) (fun e => by have := (World.ownsRow.lt hrow _ e.symm).1; omega), b1.block _ (by omega)]
  exact hbx

theorem bl_next {W wr wc w5 : World} {v u : V} {N : Nd} {k g : Nat} {us : Nat → V} {sl v' : Value} {ob : Obj} (hb : BL W wr v N k us) (hbx : wr.heap[W.heap.size + 1 + 1]? = some (.cells #[.int .i64 3, .int .i64 0, .string v.str, sl] 24 (0, 0)))
    (hrow : wr.ownsRow (W.heap.size + 3) 24 4 sl k (cellsTo us k)) (hsep : ∀ i, i < k → ∀ q, (us i).uses q → W.heap.size + 3 ≤ q ∧ sl.ownBlock ≠ some q) (hM : Made wr wc g u (v.kid k))
    (o5 : w5.ownsRow (W.heap.size + 3) 24 4 v' (k + 1) (cellsTo us k ++ u.row)) (g5 : (wc.alloc ob).grownBy w5 sl.ownBlock) (a5 : v'.ownBlock = sl.ownBlock ∨ v'.ownBlock = some (wc.alloc ob).heap.size) :
    BL W (w5.setCell ⟨W.heap.size + 1 + 1, 3, none⟩ v') v N (k + 1) (fun i => if i = k then u else us i) := by
  have hsz := hb.sz
  have b1 : Below wr.heap.size wr (wc.alloc ob) := hM.below.alloc hM.below.size _
  have hs1 := b1.size
  have hs5 := g5.size
  have hrl : ∀ q, sl.ownBlock = some q → W.heap.size + 3 ≤ q ∧ q < wr.heap.size := fun q e => World.ownsRow.lt hrow q e
  have h5 := bl_mid hsz hbx hrow hM.below g5
  have hoth : ∀ q, q < wr.heap.size → sl.ownBlock ≠ some q → q ≠ W.heap.size + 1 + 1 → (w5.setCell ⟨W.heap.size + 1 + 1, 3, none⟩ v').heap[q]? = wr.heap[q]? := fun q h1 h2 h3 => by
    rw [Below.heap_setCell _ _ _ _ h3, g5.block _ (by omega) (fun e => h2 e.symm), b1.block _ h1]
  have tt : Turn (fun q => sl.ownBlock = some q ∨ q = W.heap.size + 1 + 1) (wc.alloc ob) (w5.setCell ⟨W.heap.size + 1 + 1, 3, none⟩ v') :=
    (Turn.of_grownBy g5 (fun q e => .inl e)).trans (Turn.setCell w5 ⟨W.heap.size + 1 + 1, 3, none⟩ v' (.inr rfl)) (fun _ _ e => e)
  have hsize : (w5.setCell ⟨W.heap.size + 1 + 1, 3, none⟩ v').heap.size = w5.heap.size := by simp [World.setCell]
  have hwc : wc.heap.size ≤ (wc.alloc ob).heap.size := by simp
  have hcs : wc.heap.size + 1 = (wc.alloc ob).heap.size := by simp
  have hmb := hM.below.size
  have b5 : Below W.heap.size W (w5.setCell ⟨W.heap.size + 1 + 1, 3, none⟩ v') := by
    have c1 : Below W.heap.size W (wc.alloc ob) := hb.bw.trans (b1.mono hb.bw.size)
    have c2 : Below W.heap.size W w5 := c1.grown g5 c1.size (fun q e => by have := (hrl q e).1; omega)
    exact c2.setCell (by show _ ≤ W.heap.size + 1 + 1; omega) _
  refine ⟨b5, ?_, ?_, ⟨v', ?_, ?_, ?_⟩, by omega, ?_, ?_⟩
  · rw [hoth _ (by omega) (fun e => by have := (hrl _ e).1; omega) (by omega)]; exact hb.res
  · have hN : wr.heap[W.heap.size + 1]? = _ := hb.node
    exact (hoth _ (by omega) (fun e => by have := (hrl _ e).1; omega) (by omega)).trans hN
  · rw [setCell_eq_setRow w5 (W.heap.size + 1 + 1) 3 _ _ _ v' h5]
    exact setRow_heap w5 _ _ _ _ _ h5
  · have e1 : cellsTo (fun i => if i = k then u else us i) (k + 1) = cellsTo us k ++ u.row := by
      simp only [cellsTo, if_true]
      rw [cellsTo_congr (vs := us) k (fun i hi => if_neg (by omega))]
      rfl
    rw [e1]
    exact ownsRow_setCell_below o5 (a := ⟨W.heap.size + 1 + 1, 3, none⟩) (by show W.heap.size + 1 + 1 < _; omega) _
  · intro i hi q hq
    by_cases e : i = k
    · simp only [if_pos e] at hq
      have h1 := hM.far q hq
      have h2 := V.uses_lt u hM.at_ q hq
      refine ⟨by omega, fun e2 => ?_⟩
      rcases a5 with a5 | a5
      · rw [a5] at e2; have := (hrl q e2).2; omega
      · rw [a5] at e2; simp only [Option.some.injEq] at e2; omega
    · simp only [if_neg e] at hq
      obtain ⟨h1, h2⟩ := hsep i (by omega) q hq
      have h3 := V.uses_lt (us i) (hb.at_ i (by omega)) q hq
      refine ⟨h1, fun e2 => ?_⟩
      rcases a5 with a5 | a5
      · rw [a5] at e2; exact h2 e2
      · rw [a5] at e2; simp only [Option.some.injEq] at e2; omega
  · intro i hi
    by_cases e : i = k
    · simp only [if_pos e]
      have h1 : u.At wc.heap.size (wc.alloc ob) := hM.at_.below (below_box wc ob)
      refine (V.At.turn' tt u h1 (fun q hq e2 => ?_)).more (by omega) _
      have := hM.far q hq
      rcases e2 with e2 | e2
      · have := (hrl q e2).2; omega
      · omega
    · simp only [if_neg e]
      have h1 : (us i).At wr.heap.size (wc.alloc ob) := (hb.at_ i (by omega)).below b1
      refine (V.At.turn' tt _ h1 (fun q hq e2 => ?_)).more (by omega) _
      obtain ⟨h2, h3⟩ := hsep i (by omega) q hq
      rcases e2 with e2 | e2
      · exact h3 e2
      · omega
  · intro i hi
    by_cases e : i = k
    · simp only [if_pos e]; rw [e]; exact hM.like
    · simp only [if_neg e]; exact hb.like i (by omega)
end Go.Proofs.YtpiehfjgokfdeaaDoor

namespace Go.Proofs.YtpiehfjgokfdeaaDoor
open Go.RowKit Go.Maps

theorem ownsRow_below {w w' : World} {base : Nat} {e : TypeId} {size : Nat} {v : Value} {n : Nat} {xs : List Value} (h : w.ownsRow base e size v n xs) (hb : Below w.heap.size w w') : w'.ownsRow base e size v n xs :=
  World.ownsRow.kept h (row := none) ⟨hb.os, hb.tape, hb.output, hb.size, fun k hk _ => hb.block k hk⟩ (by cases v.ownBlock <;> simp)
theorem row_new (w : World) (u : V) : ∀ j y, u.row[j]? = some y → (w.alloc (.cells #[.int .i64 u.kind, .int .i64 u.num, .string u.str, .slice u.addr u.len u.cap] 24)).cell? ((⟨w.heap.size, 0, none⟩ : Addr).add j) = some y := by
  have hn := World.alloc_heap_new w u.obj
  intro j y hj
  have e1 : (⟨w.heap.size, 0, none⟩ : Addr).add j = ⟨w.heap.size, j, none⟩ := by cases j <;> simp [Addr.add]
  rw [e1]
  simp only [World.cell?]
  rw [show (w.alloc (.cells #[.int .i64 u.kind, .int .i64 u.num, .string u.str, .slice u.addr u.len u.cap] 24)).heap[w.heap.size]? = some u.obj from hn]
  match j, hj with
  | 0, h => exact h
  | 1, h => exact h
  | 2, h => exact h
  | 3, h => exact h
theorem frozen_mid {w5 : World} {g : Nat} {c : Array Value} (h : w5.heap[g]? = some (.cells c 24 (0, 0))) : w5.frozen? ⟨g, 3, none⟩ = false := by simp [World.frozen?, h]
theorem cell_mid {w5 : World} {g : Nat} {a b c d : Value} (h : w5.heap[g]? = some (.cells #[a, b, c, d] 24 (0, 0))) : w5.cell? ⟨g, 3, none⟩ = some d := by simp [World.cell?, h]

theorem own_shape {w : World} {base : Nat} {e : TypeId} {size : Nat} {v : Value} {n : Nat} {xs : List Value} (h : w.ownsRow base e size v n xs) : ∃ a l c, v = .slice a l c := by
  rcases h.2 with ⟨rfl, _⟩ | ⟨g, cap, cur, rfl, _⟩
  · exact ⟨_, _, _, rfl⟩
  · exact ⟨_, _, _, rfl⟩

theorem bl_end {W wr : World} {v : V} {N : Nd} {d : Nat} {us : Nat → V} {sl : Value} (hb : BL W wr v N v.len us) (hm : v.may d = true) (hk : v.kind = 3) (hs : v.Small)
    (hrow : wr.ownsRow (W.heap.size + 3) 24 4 sl v.len (cellsTo us v.len)) (hsep : ∀ i, i < v.len → ∀ q, (us i).uses q → W.heap.size + 3 ≤ q ∧ sl.ownBlock ≠ some q) :
    ∃ a cap, sl = .slice a v.len cap ∧ ∀ q0 q1 q2 q3, Got W ((((wr.setCell ⟨W.heap.size, 0, none⟩ q0).setCell ⟨W.heap.size, 1, none⟩ q1).setCell ⟨W.heap.size, 2, none⟩ q2).setCell ⟨W.heap.size, 3, none⟩ q3) v (.agg #[.int .i64 3, .int .i64 0, .string v.str, .slice a v.len cap]) := by
  obtain ⟨hn0, h8⟩ := may_con_num hm hk
  obtain ⟨a, cap, rfl, hgood⟩ : ∃ a cap, sl = .slice a v.len cap ∧ (0 < v.len → ∃ g, a = some ⟨g, 0, none⟩ ∧ W.heap.size + 3 ≤ g ∧ g < wr.heap.size ∧ ∀ i, i < v.len → CellsAt wr g (0 + i * 4) (us i)) := by
    rcases hrow.2 with ⟨rfl, h0⟩ | ⟨g, cap, cur, rfl, hg, hh, _, _, _, _⟩
    · exact ⟨none, 0, by rw [h0], fun h => by omega⟩
    · refine ⟨some ⟨g, 0, none⟩, cap, rfl, fun _ => ⟨g, rfl, hg, (Array.getElem?_eq_some_iff.1 hh).1, fun i hi => ?_⟩⟩
      have hc : ∀ q, q < 4 → wr.cell? ⟨g, i * 4 + q, none⟩ = (us i).row[q]? := fun q hq => by
        rw [World.ownsRow.cellAt hrow (i * 4 + q) (by omega)]
        exact cellsTo_at us v.len i hi q hq
      rw [Nat.zero_add]
      exact ⟨hc 0 (by omega), hc 1 (by omega), hc 2 (by omega), hc 3 (by omega)⟩
  refine ⟨a, cap, rfl, fun q0 q1 q2 q3 => ?_⟩
  have t := turn_four wr W.heap.size q0 q1 q2 q3
  refine ⟨.mk 3 0 v.str a v.len cap us, rfl, V.At.of ⟨(by show (-9223372036854775808 : Int) ≤ 3; decide), (by show (3 : Int) ≤ 9223372036854775807; decide), (by show (-9223372036854775808 : Int) ≤ 0; decide), (by show (0 : Int) ≤ 9223372036854775807; decide), hs.top.2.2.2.2, by show v.len ≤ _; omega, fun i hi => ?_⟩ (fun i hi => ?_), ?_, fun q hq => ?_⟩
  · have hi' : i < v.len := hi
    obtain ⟨g, e, h3, hlt, hc⟩ := hgood (by omega)
    refine ⟨g, 0, e, Nat.lt_of_lt_of_le hlt t.size, (hc i hi').stays fun p u hp hu => ?_⟩
    have : (((((wr.setCell ⟨W.heap.size, 0, none⟩ q0).setCell ⟨W.heap.size, 1, none⟩ q1).setCell ⟨W.heap.size, 2, none⟩ q2).setCell ⟨W.heap.size, 3, none⟩ q3)).cell? p = wr.cell? p := by
      simp only [World.cell?]
      rw [t.block _ (by omega) (by omega)]
    exact this.trans hu
  · have hi' : i < v.len := hi
    refine (V.At.turn' t (us i) (hb.at_ i hi') (fun q hq e => ?_)).more t.size _
    have := (hsep i hi' q hq).1
    omega
  · rw [ord_zero]
    exact ⟨hk.symm, hn0.symm, rfl, rfl, fun i hi => hb.like i hi⟩
  · rcases (V.uses_eq _ _).1 hq with ⟨h1, h2⟩ | ⟨i, hi, h2⟩
    · have h1' : 0 < v.len := h1
      obtain ⟨g, e, h3, _, _⟩ := hgood h1'
      have h2' : a.map Addr.block = some q := h2
      rw [e] at h2'
      simp at h2'
      omega
    · have := (hsep i hi q h2).1
      omega
end Go.Proofs.YtpiehfjgokfdeaaDoor
