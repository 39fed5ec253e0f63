/- What putting leaves of a store in memory: a text more in a table; a node more. -/
import Derived.Test.YtpiehfjgokfdeaaDoorPutD
import Derived.Deep.RegionLaw
namespace Go.Proofs.YtpiehfjgokfdeaaDoor
open Go.RowKit Go.Maps Go.WideMaps

section
variable {W W' : World} {p : SP} {S : SS}
theorem mine_new {h m k B : Nat} {a a' : Option Addr} (hat : a' = a ∨ ∃ g, a'.map Addr.block = some g ∧ B ≤ g) (e : Sym.mine h m a' k) : Sym.mine h m a k ∨ B ≤ k := by
  rcases e with e | e | e
  · exact .inl (.inl e)
  · exact .inl (.inr (.inl e))
  · rcases hat with rfl | ⟨g, h1, h2⟩
    · exact .inl (.inr (.inr e))
    · rw [h1] at e
      injection e with e
      exact .inr (by omega)
/-- A text more among the words. -/
theorem Sto.put2 (h : Sto W p S) {ws' : List ByteArray} {a' : Option Addr} {c' : Nat} (L : Sym.Left W W' p.base p.t2 p.h2 p.m2 p.a2 S.ws ws' a' c') :
    Sto W' { p with a2 := a', c2 := c' } ⟨S.xs, ws', S.ns⟩ ∧ Step W W' p { p with a2 := a', c2 := c' } := by
  obtain ⟨D, ⟨es, clock, hmb, hr⟩, hD⟩ := h.map
  have two_of : ∀ k, Sym.mine p.h2 p.m2 p.a2 k → p.two k := fun k e => .inr e
  have two' : ∀ k, ({ p with a2 := a', c2 := c' } : SP).two k → p.two k ∨ W.heap.size ≤ k := fun k e => by
    rcases e with e | e
    · exact .inl (.inl e)
    · exact (mine_new L.at_ e).imp (two_of k) id
  have one_lt : ∀ k, p.one k → k < W.heap.size := fun k e => (h.own_lt k (.inr (.inr (.inl e)))).2
  refine ⟨⟨(L.turn.block _ (Sym.lt_of_heap h.st) (fun e => h.sb_not (.inr (.inr (.inr (.inl (two_of _ e))))))).trans h.st, (L.turn.block _ (Sym.lt_of_heap h.held) (fun e => h.hb_not.2.2.1 (two_of _ e))).trans h.held,
    h.T1.stays L.turn (fun k e e2 => h.apart k e (two_of k e2)), L.tab, h.row.stays L.turn (fun k e e2 => (h.row_not k e).2.2 (two_of k e2)),
    ⟨D, ⟨es, clock, (L.turn.block _ (Sym.lt_of_heap hmb) (fun e => h.mb2 (two_of _ e))).trans hmb, hr⟩, hD⟩, h.len,
    fun k e e2 => (two' k e2).elim (h.apart k e) (fun e3 => by have := one_lt k e; omega), h.mb1, fun e => (two' _ e).elim h.mb2 (fun e3 => by have := Sym.lt_of_heap hmb; simp only at e3; omega), h.low⟩, ?_⟩
  refine ⟨L.turn.mono (fun k e => .inr (.inr (.inr (.inl (two_of k e))))), ?_, rfl, rfl, rfl⟩
  rintro k (e | e | e | e | e)
  · exact .inl (.inl e)
  · exact .inl (.inr (.inl e))
  · exact .inl (.inr (.inr (.inl e)))
  · exact (two' k e).imp (fun e => .inr (.inr (.inr (.inl e)))) id
  · exact .inl (.inr (.inr (.inr (.inr e))))
/-- A text more among the Syms. -/
theorem Sto.put1 (h : Sto W p S) {xs' : List ByteArray} {a' : Option Addr} {c' : Nat} (L : Sym.Left W W' p.base p.t1 p.h1 p.m1 p.a1 S.xs xs' a' c') :
    Sto W' { p with a1 := a', c1 := c' } ⟨xs', S.ws, S.ns⟩ ∧ Step W W' p { p with a1 := a', c1 := c' } := by
  obtain ⟨D, ⟨es, clock, hmb, hr⟩, hD⟩ := h.map
  have one_of : ∀ k, Sym.mine p.h1 p.m1 p.a1 k → p.one k := fun k e => .inr e
  have one' : ∀ k, ({ p with a1 := a', c1 := c' } : SP).one k → p.one k ∨ W.heap.size ≤ k := fun k e => by
    rcases e with e | e
    · exact .inl (.inl e)
    · exact (mine_new L.at_ e).imp (one_of k) id
  have two_lt : ∀ k, p.two k → k < W.heap.size := fun k e => (h.own_lt k (.inr (.inr (.inr (.inl e))))).2
  refine ⟨⟨(L.turn.block _ (Sym.lt_of_heap h.st) (fun e => h.sb_not (.inr (.inr (.inl (one_of _ e)))))).trans h.st, (L.turn.block _ (Sym.lt_of_heap h.held) (fun e => h.hb_not.2.1 (one_of _ e))).trans h.held,
    L.tab, h.T2.stays L.turn (fun k e e2 => h.apart k (one_of k e2) e), h.row.stays L.turn (fun k e e2 => (h.row_not k e).2.1 (one_of k e2)),
    ⟨D, ⟨es, clock, (L.turn.block _ (Sym.lt_of_heap hmb) (fun e => h.mb1 (one_of _ e))).trans hmb, hr⟩, hD⟩, h.len,
    fun k e e2 => (one' k e).elim (fun e => h.apart k e e2) (fun e3 => by have := two_lt k e2; omega), fun e => (one' _ e).elim h.mb1 (fun e3 => by have := Sym.lt_of_heap hmb; simp only at e3; omega), h.mb2, h.low⟩, ?_⟩
  refine ⟨L.turn.mono (fun k e => .inr (.inr (.inl (one_of k e)))), ?_, rfl, rfl, rfl⟩
  rintro k (e | e | e | e | e)
  · exact .inl (.inl e)
  · exact .inl (.inr (.inl e))
  · exact (one' k e).imp (fun e => .inr (.inr (.inl e))) id
  · exact .inl (.inr (.inr (.inr (.inl e))))
  · exact .inl (.inr (.inr (.inr (.inr e))))

theorem cells_oneCell (l : List Int) : ∀ u ∈ l.map (Value.int .i64), u.oneCell' = true := fun u hu => by
  obtain ⟨_, _, rfl⟩ := List.mem_map.1 hu
  rfl
theorem info98 : (Tryd.prog.info? 98).map (fun i => (i.zero.map (fun z => z.cells.size), i.size, i.bytes)) = some (some 18, 18, 144) := by kernel_rfl

/-- append of one node onto the row of nodes, as one step of a region that leaves its order open. -/
theorem step_append_node {ops : Array Oper} {o : Oper} {a : Act} {w : World} {K : Act → World → Prop} {Q : Exit → Act → World → Prop} {E : Prop} (hg : o.guard = none) (s x : Operand)
    (hop : o.op = Op.call { callee := Callee.builtin Builtin.append, args := #[s, x], argTypes := #[66, 66] })
    (base : Nat) (na : Option Addr) (nc : Nat) (ns : List (List Int)) (hs : a.eval s = .slice na ns.length nc) (hrow : NRow w base na nc ns) (l : List Int) (hl : l.length = 18) (ad : Addr) (hx : a.eval x = .slice (some ad) 1 1)
    (hc : ∀ j u, (l.map (Value.int .i64))[j]? = some u → w.cell? (ad.add j) = some u) (hn : ns.length < 16384) (hbase : base ≤ w.heap.size)
    (hK : ∀ na' nc' w', NRow w' base na' nc' (ns ++ [l]) → w.grownBy w' (na.map Addr.block) → (na'.map Addr.block = na.map Addr.block ∨ na'.map Addr.block = some w.heap.size) → K (a.put o.dst (.slice na' (ns.length + 1) nc')) w') :
    if Region.wanted o (yielded ops a.tmps) = true then Oper.wp Tryd.prog o a w K Q else E := by
  have hw : Region.wanted o (yielded ops a.tmps) = true := by simp [Region.wanted, hg]
  rw [if_pos hw]
  obtain ⟨i0, hi, hz⟩ := Option.map_eq_some_iff.1 info98
  simp only [Prod.mk.injEq] at hz
  obtain ⟨z, hz0, hzc⟩ := Option.map_eq_some_iff.1 hz.1
  obtain ⟨v', w', hr, h1, h2, h3, h4⟩ := run_append_own_at (P := Tryd.prog) w base 66 o.type 98 i0 z 18 144 Tryd.underlying66 hi hz0 hz.2.1 hz.2.2 hzc (by decide) _ ns.length _ hrow ad 1 1 (l.map (Value.int .i64)) (by simp [hl]) hc (cells_oneCell l)
    (by unfold maxLen; omega) (by omega) hbase
  obtain ⟨g', cap', rfl⟩ := ownsRow_succ h1
  unfold Oper.wp
  simp [execOp, hop, resolve, invoke, builtin, hs, hx, hr, Result.andThen]
  rw [Sym.own_slice, Sym.own_slice] at h4
  exact hK _ _ _ (by simpa [NRow] using h1) (by simpa [Sym.own_slice] using h2) h4
end
end Go.Proofs.YtpiehfjgokfdeaaDoor
