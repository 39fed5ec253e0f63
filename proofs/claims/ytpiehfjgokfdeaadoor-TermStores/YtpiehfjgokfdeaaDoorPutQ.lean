/- What a node more leaves of a store in memory, between the row's turn and the map's. -/
import Derived.Test.YtpiehfjgokfdeaaDoorPutO
namespace Go.Proofs.YtpiehfjgokfdeaaDoor
open Go.RowKit Go.Maps Go.WideMaps

/-- The row has the node, the map has it not yet. -/
structure Mid (W wx : World) (p : SP) (S : SS) (l : List Int) (na' : Option Addr) (nc' : Nat) : Prop where
  st : wx.heap[p.sb]? = some (.cells #[.pointer (some ⟨p.hb, 0, none⟩)] 70 (0, 0))
  held : wx.heap[p.hb]? = some (.cells #[.pointer (some ⟨p.t1, 0, none⟩), .pointer (some ⟨p.t2, 0, none⟩), .slice na' (S.ns.length + 1) nc', .map (some p.mb)] 68 (0, 0))
  T1 : Sym.Tab wx p.base p.t1 p.h1 p.m1 p.a1 p.c1 S.xs
  T2 : Sym.Tab wx p.base p.t2 p.h2 p.m2 p.a2 p.c2 S.ws
  row : NRow wx p.base na' nc' (S.ns ++ [l])
  map : ∃ D : DataW Unit, wx.ownsMap Tryd.prog 98 (plainElem Tryd.prog 3) p.mb S.ns.length D ∧ NTies D S.ns
  turn : Turn (fun k => k = p.hb ∨ p.na.map Addr.block = some k) W wx
  at_ : na'.map Addr.block = p.na.map Addr.block ∨ ∃ g, na'.map Addr.block = some g ∧ W.heap.size ≤ g

set_option maxRecDepth 100000 in
theorem mid_of {W U w4 : World} {p : SP} {S : SS} {l : List Int} {na' : Option Addr} {nc' : Nat} (h : Sto W p S) (hU : Below W.heap.size W U) (hrow : NRow w4 p.base na' nc' (S.ns ++ [l])) (hg : U.grownBy w4 (p.na.map Addr.block))
    (hat : na'.map Addr.block = p.na.map Addr.block ∨ na'.map Addr.block = some U.heap.size) :
    Mid W (w4.setCell ⟨p.hb, 2, none⟩ (.slice na' (S.ns.length + 1) nc')) p S l na' nc' := by
  have t1 : Turn (fun k => k = p.hb ∨ p.na.map Addr.block = some k) W U := Turn.of_below hU
  have t2 : Turn (fun k => k = p.hb ∨ p.na.map Addr.block = some k) U w4 := Turn.of_grownBy hg (fun k e => .inr e)
  have t3 : Turn (fun k => k = p.hb ∨ p.na.map Addr.block = some k) w4 (w4.setCell ⟨p.hb, 2, none⟩ (.slice na' (S.ns.length + 1) nc')) := Turn.setCell (S := fun k => k = p.hb ∨ p.na.map Addr.block = some k) _ _ _ (.inl rfl)
  have t := (t1.trans t2 (fun _ _ e => e)).trans t3 (fun _ _ e => e)
  have hn := h.hb_not
  have held4 : w4.heap[p.hb]? = some (.cells #[.pointer (some ⟨p.t1, 0, none⟩), .pointer (some ⟨p.t2, 0, none⟩), .slice p.na S.ns.length p.nc, .map (some p.mb)] 68 (0, 0)) :=
    (hg.block p.hb (Nat.lt_of_lt_of_le (Sym.lt_of_heap h.held) hU.size) (fun e => hn.2.2.2 e.symm)).trans ((hU.block _ (Sym.lt_of_heap h.held)).trans h.held)
  have not : ∀ k, (k = p.sb ∨ p.one k ∨ p.two k ∨ k = p.mb) → ¬ (k = p.hb ∨ p.na.map Addr.block = some k) := fun k e e2 => by
    rcases e2 with e2 | e2
    · subst e2
      rcases e with e | e | e | e
      · exact h.sb_not (.inl e.symm)
      · exact hn.2.1 e
      · exact hn.2.2.1 e
      · exact hn.1 e
    · have hr := h.row_not k e2
      rcases e with e | e | e | e
      · subst e; exact h.sb_not (.inr (.inr (.inr (.inr e2))))
      · exact hr.2.1 e
      · exact hr.2.2 e
      · exact hr.1 e
  obtain ⟨D, ⟨es, clock, hmb, hr⟩, hD⟩ := h.map
  have hrow4 : NRow (w4.setCell ⟨p.hb, 2, none⟩ (.slice na' (S.ns.length + 1) nc')) p.base na' nc' (S.ns ++ [l]) := hrow.stays (Q := fun k => k = p.hb) (Turn.setCell (S := fun k => k = p.hb) _ _ _ rfl) (fun k e e2 => by
    subst e2
    obtain ⟨_, cur, hc⟩ := hrow.obj _ e
    rw [held4] at hc
    simp at hc)
  refine ⟨(t.block _ (Sym.lt_of_heap h.st) (not _ (.inl rfl))).trans h.st, ?_, h.T1.stays t (fun k e => not k (.inr (.inl e))), h.T2.stays t (fun k e => not k (.inr (.inr (.inl e)))), hrow4,
    ⟨D, ⟨es, clock, (t.block _ (Sym.lt_of_heap hmb) (not _ (.inr (.inr (.inr rfl))))).trans hmb, hr⟩, hD⟩, t, hat.imp id (fun e => ⟨_, e, hU.size⟩)⟩
  simp [World.setCell, Array.getElem?_modify, held4]

set_option maxRecDepth 100000 in
theorem fin_of {W wx w6 : World} {p : SP} {S : SS} {n : Nd} {na' : Option Addr} {nc' : Nat} {D : DataW Unit} {kl : Lit} (h : Sto W p S) (m : Mid W wx p S n.list na' nc') (hl : S.ns.length < 16384) (hD : NTies D S.ns)
    (hk : keyOf Tryd.prog 98 (ndVal n.list) = some kl) (hnew : n.list ∉ S.ns) (hm6 : w6.ownsMap Tryd.prog 98 (plainElem Tryd.prog 3) p.mb (S.ns.length + 1) (D.put kl (.lit (.int .i64 (S.ns.length : Int))))) (hg6 : wx.grownBy w6 (some p.mb)) :
    Sto w6 { p with na := na', nc := nc' } ⟨S.xs, S.ws, S.ns ++ [n.list]⟩ ∧ Step W w6 p { p with na := na', nc := nc' } := by
  have t : Turn (fun k => k = p.mb) wx w6 := Turn.of_grownBy hg6 (fun k e => by injection e with e; exact e.symm)
  have hn := h.hb_not
  have own' : ∀ k, ({ p with na := na', nc := nc' } : SP).own k → p.own k ∨ W.heap.size ≤ k := by
    rintro k (e | e | e | e | e)
    · exact .inl (.inl e)
    · exact .inl (.inr (.inl e))
    · exact .inl (.inr (.inr (.inl e)))
    · exact .inl (.inr (.inr (.inr (.inl e))))
    · rcases m.at_ with e2 | ⟨g, e2, e3⟩
      · exact .inl (.inr (.inr (.inr (.inr (e2 ▸ e)))))
      · have e4 : some g = some k := e2.symm.trans e
        injection e4 with e4
        exact .inr (by omega)
  refine ⟨⟨(t.block _ (Sym.lt_of_heap m.st) (fun e => h.sb_not (.inr (.inl e)))).trans m.st, ?_, m.T1.stays t (fun k e e2 => h.mb1 (e2 ▸ e)), m.T2.stays t (fun k e e2 => h.mb2 (e2 ▸ e)), m.row.stays t (fun k e e2 => ?_),
    ⟨_, by simpa using hm6, hD.snoc hk hnew⟩, by simp; omega, h.apart, h.mb1, h.mb2, h.low⟩, ?_, own', rfl, rfl, rfl⟩
  · have := (t.block _ (Sym.lt_of_heap m.held) (fun e => hn.1 e)).trans m.held
    simpa using this
  · subst e2
    obtain ⟨_, cur, hc⟩ := m.row.obj _ e
    obtain ⟨D2, ⟨es, clock, hmb, _⟩, _⟩ := m.map
    rw [hmb] at hc; cases hc
  · refine (m.turn.mono (fun k e => ?_)).trans t (fun k _ e => .inr (.inl e))
    rcases e with e | e
    · exact .inl e
    · exact .inr (.inr (.inr (.inr e)))
end Go.Proofs.YtpiehfjgokfdeaaDoor
