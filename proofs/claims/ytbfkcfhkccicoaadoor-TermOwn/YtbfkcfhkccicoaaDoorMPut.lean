/- What putting leaves of a store in memory: a text more in a table; a node more. Walk of putting a node: putNode. Walk of putting a node that is there, or where there is no room: putNode. What a node more leaves of a store in memory, between the row's turn and the map's. -/
import Derived.Test.YtbfkcfhkccicoaaDoorPutD
import Derived.Deep.RegionLaw
namespace Go.Proofs.YtbfkcfhkccicoaaDoor
open Go.RowKit Go.Maps Go.WideMaps

section
variable {W W' : World} {p : SP} {S : SS}
theorem mine_new {h m k B : Nat} {a a' : Option Addr} (hat : a' = a ∨ ∃ g, a'.map Addr.block = some g ∧ B ≤ g) (e : Sym.mine h m a' k) : Sym.mine h m a k ∨ B ≤ k := by
  rcases e with e | e | e
  · exact .inl (.inl e)
  · exact .inl (.inr (.inl e))
  · rcases hat with rfl | ⟨g, h1, h2⟩
    · exact .inl (.inr (.inr e))
    · rw [h1] at e
      injection e with e
      exact .inr (by omega)
/-- A text more among the words. -/
theorem Sto.put2 (h : Sto W p S) {ws' : List ByteArray} {a' : Option Addr} {c' : Nat} (L : Sym.Left W W' p.base p.t2 p.h2 p.m2 p.a2 S.ws ws' a' c') :
    Sto W' { p with a2 := a', c2 := c' } ⟨S.xs, ws', S.ns⟩ ∧ Step W W' p { p with a2 := a', c2 := c' } := by
  obtain ⟨D, ⟨es, clock, hmb, hr⟩, hD⟩ := h.map
  have two_of : ∀ k, Sym.mine p.h2 p.m2 p.a2 k → p.two k := fun k e => .inr e
  have two' : ∀ k, ({ p with a2 := a', c2 := c' } : SP).two k → p.two k ∨ W.heap.size ≤ k := fun k e => by
    rcases e with e | e
    · exact .inl (.inl e)
    · exact (mine_new L.at_ e).imp (two_of k) id
  have one_lt : ∀ k, p.one k → k < W.heap.size := fun k e => (h.own_lt k (.inr (.inr (.inl e)))).2
  refine ⟨⟨(L.turn.block _ (Sym.lt_of_heap h.st) (fun e => h.sb_not (.inr (.inr (.inr (.inl (two_of _ e))))))).trans h.st, (L.turn.block _ (Sym.lt_of_heap h.held) (fun e => h.hb_not.2.2.1 (two_of _ e))).trans h.held,
    h.T1.stays L.turn (fun k e e2 => h.apart k e (two_of k e2)), L.tab, h.row.stays L.turn (fun k e e2 => (h.row_not k e).2.2 (two_of k e2)),
    ⟨D, ⟨es, clock, (L.turn.block _ (Sym.lt_of_heap hmb) (fun e => h.mb2 (two_of _ e))).trans hmb, hr⟩, hD⟩, h.len,
    fun k e e2 => (two' k e2).elim (h.apart k e) (fun e3 => by have := one_lt k e; omega), h.mb1, fun e => (two' _ e).elim h.mb2 (fun e3 => by have := Sym.lt_of_heap hmb; simp only at e3; omega), h.low⟩, ?_⟩
  refine ⟨L.turn.mono (fun k e => .inr (.inr (.inr (.inl (two_of k e))))), ?_, rfl, rfl, rfl⟩
  rintro k (e | e | e | e | e)
  · exact .inl (.inl e)
  · exact .inl (.inr (.inl e))
  · exact .inl (.inr (.inr (.inl e)))
  · exact (two' k e).imp (fun e => .inr (.inr (.inr (.inl e)))) id
  · exact .inl (.inr (.inr (.inr (.inr e))))
/-- A text more among the Syms. -/
theorem Sto.put1 (h : Sto W p S) {xs' : List ByteArray} {a' : Option Addr} {c' : Nat} (L : Sym.Left W W' p.base p.t1 p.h1 p.m1 p.a1 S.xs xs' a' c') :
    Sto W' { p with a1 := a', c1 := c' } ⟨xs', S.ws, S.ns⟩ ∧ Step W W' p { p with a1 := a', c1 := c' } := by
  obtain ⟨D, ⟨es, clock, hmb, hr⟩, hD⟩ := h.map
  have one_of : ∀ k, Sym.mine p.h1 p.m1 p.a1 k → p.one k := fun k e => .inr e
  have one' : ∀ k, ({ p with a1 := a', c1 := c' } : SP).one k → p.one k ∨ W.heap.size ≤ k := fun k e => by
    rcases e with e | e
    · exact .inl (.inl e)
    · exact (mine_new L.at_ e).imp (one_of k) id
  have two_lt : ∀ k, p.two k → k < W.heap.size := fun k e => (h.own_lt k (.inr (.inr (.inr (.inl e))))).2
  refine ⟨⟨(L.turn.block _ (Sym.lt_of_heap h.st) (fun e => h.sb_not (.inr (.inr (.inl (one_of _ e)))))).trans h.st, (L.turn.block _ (Sym.lt_of_heap h.held) (fun e => h.hb_not.2.1 (one_of _ e))).trans h.held,
    L.tab, h.T2.stays L.turn (fun k e e2 => h.apart k (one_of k e2) e), h.row.stays L.turn (fun k e e2 => (h.row_not k e).2.1 (one_of k e2)),
    ⟨D, ⟨es, clock, (L.turn.block _ (Sym.lt_of_heap hmb) (fun e => h.mb1 (one_of _ e))).trans hmb, hr⟩, hD⟩, h.len,
    fun k e e2 => (one' k e).elim (fun e => h.apart k e e2) (fun e3 => by have := two_lt k e2; omega), fun e => (one' _ e).elim h.mb1 (fun e3 => by have := Sym.lt_of_heap hmb; simp only at e3; omega), h.mb2, h.low⟩, ?_⟩
  refine ⟨L.turn.mono (fun k e => .inr (.inr (.inl (one_of k e)))), ?_, rfl, rfl, rfl⟩
  rintro k (e | e | e | e | e)
  · exact .inl (.inl e)
  · exact .inl (.inr (.inl e))
  · exact (one' k e).imp (fun e => .inr (.inr (.inl e))) id
  · exact .inl (.inr (.inr (.inr (.inl e))))
  · exact .inl (.inr (.inr (.inr (.inr e))))

theorem cells_oneCell (l : List Int) : ∀ u ∈ l.map (Value.int .i64), u.oneCell' = true := fun u hu => by
  obtain ⟨_, _, rfl⟩ := List.mem_map.1 hu
  rfl
theorem info98 : (Tryd.prog.info? 81).map (fun i => (i.zero.map (fun z => z.cells.size), i.size, i.bytes)) = some (some 18, 18, 144) := by kernel_rfl

/-- append of one node onto the row of nodes, as one step of a region that leaves its order open. -/
theorem step_append_node {ops : Array Oper} {o : Oper} {a : Act} {w : World} {K : Act → World → Prop} {Q : Exit → Act → World → Prop} {E : Prop} (hg : o.guard = none) (s x : Operand)
    (hop : o.op = Op.call { callee := Callee.builtin Builtin.append, args := #[s, x], argTypes := #[50, 50] })
    (base : Nat) (na : Option Addr) (nc : Nat) (ns : List (List Int)) (hs : a.eval s = .slice na ns.length nc) (hrow : NRow w base na nc ns) (l : List Int) (hl : l.length = 18) (ad : Addr) (hx : a.eval x = .slice (some ad) 1 1)
    (hc : ∀ j u, (l.map (Value.int .i64))[j]? = some u → w.cell? (ad.add j) = some u) (hn : ns.length < 16384) (hbase : base ≤ w.heap.size)
    (hK : ∀ na' nc' w', NRow w' base na' nc' (ns ++ [l]) → w.grownBy w' (na.map Addr.block) → (na'.map Addr.block = na.map Addr.block ∨ na'.map Addr.block = some w.heap.size) → K (a.put o.dst (.slice na' (ns.length + 1) nc')) w') :
    if Region.wanted o (yielded ops a.tmps) = true then Oper.wp Tryd.prog o a w K Q else E := by
  have hw : Region.wanted o (yielded ops a.tmps) = true := by simp [Region.wanted, hg]
  rw [if_pos hw]
  obtain ⟨i0, hi, hz⟩ := Option.map_eq_some_iff.1 info98
  simp only [Prod.mk.injEq] at hz
  obtain ⟨z, hz0, hzc⟩ := Option.map_eq_some_iff.1 hz.1
  obtain ⟨v', w', hr, h1, h2, h3, h4⟩ := run_append_own_at (P := Tryd.prog) w base 50 o.type 81 i0 z 18 144 Tryd.underlying50 hi hz0 hz.2.1 hz.2.2 hzc (by decide) _ ns.length _ hrow ad 1 1 (l.map (Value.int .i64)) (by simp [hl]) hc (cells_oneCell l)
    (by unfold maxLen; omega) (by omega) hbase
  obtain ⟨g', cap', rfl⟩ := ownsRow_succ h1
  unfold Oper.wp
  simp [execOp, hop, resolve, invoke, builtin, hs, hx, hr, Result.andThen]
  rw [Sym.own_slice, Sym.own_slice] at h4
  exact hK _ _ _ (by simpa [NRow] using h1) (by simpa [Sym.own_slice] using h2) h4
end
end Go.Proofs.YtbfkcfhkccicoaaDoor

namespace Go.Proofs.YtbfkcfhkccicoaaDoor
open Go.RowKit Go.Maps Go.WideMaps

theorem ret_ii {x : Int × Int} {a b : Int} (h : x = (a, b)) : Ending.returned (.tuple #[.int .i64 a, .int .i64 b]) = .returned (.tuple #[.int .i64 x.1, .int .i64 x.2]) := by rw [h]
/-- A node's block. -/
def NB (w : World) (g : Nat) (n : Nd) : Prop := w.heap[g]? = some (.cells (n.list.map (Value.int .i64)).toArray 81 (0, 0))
theorem NB.cell {w : World} {g : Nat} {n : Nd} (h : NB w g n) (j : Nat) (hj : j < 18) : w.cell? ⟨g, j, none⟩ = some (.int .i64 (n j)) := by
  unfold NB at h
  simp only [World.cell?]
  rw [h]
  simp [Nd.list, hj]
theorem NB.frozen {w : World} {g : Nat} {n : Nd} (h : NB w g n) (j : Nat) : w.frozen? ⟨g, j, none⟩ = false := by
  unfold NB at h
  simp [World.frozen?, h]
theorem nb_alloc (w : World) (n : Nd) : NB (w.alloc (.cells (n.list.map (Value.int .i64)).toArray 81)) w.heap.size n := World.alloc_heap_new w _
theorem NB.later {w w' : World} {g B : Nat} {n : Nd} (h : NB w g n) (hb : Below B w w') (hg : g < B) : NB w' g n := (hb.block g hg).trans h
theorem NB.turn {Q : Nat → Prop} {w w' : World} {g : Nat} {n : Nd} (h : NB w g n) (t : Turn Q w w') (hg : ¬ Q g) : NB w' g n := (t.block g (Sym.lt_of_heap h) hg).trans h
theorem NB.set {w : World} {g i : Nat} {n : Nd} (h : NB w g n) (hi : i < 18) (x : Int) : NB (w.setCell ⟨g, i, none⟩ (.int .i64 x)) g (fun j => if j = i then x else n j) := by
  unfold NB at *
  simp only [World.setCell, Array.getElem?_modify, h]
  simp only [if_true, Option.map_some, Option.isSome_none, Bool.false_eq_true, if_false]
  congr 2
  apply Array.ext_getElem?
  intro j
  rw [Array.getElem?_setIfInBounds]
  by_cases e : i = j
  · subst e
    simp [Nd.list, hi]
  · rw [if_neg e]
    by_cases hj : j < 18
    · simp [Nd.list, hj, Ne.symm e]
    · simp [Nd.list, hj]

theorem nd_obj (n : Nd) : (Obj.cells (n.list.map (Value.int .i64)).toArray 81) = .cells #[.int .i64 (n 0), .int .i64 (n 1), .int .i64 (n 2), .int .i64 (n 3), .int .i64 (n 4), .int .i64 (n 5), .int .i64 (n 6), .int .i64 (n 7), .int .i64 (n 8), .int .i64 (n 9),
    .int .i64 (n 10), .int .i64 (n 11), .int .i64 (n 12), .int .i64 (n 13), .int .i64 (n 14), .int .i64 (n 15), .int .i64 (n 16), .int .i64 (n 17)] 81 := rfl

theorem putNodeV_there {S : SS} {word : ByteArray} {n : Nd} (h : (findV S word n).2 = true) : putNodeV S word n = (((findV S word n).1, 0), S) := if_pos h
theorem putNodeV_full {S : SS} {word : ByteArray} {n : Nd} (h : (findV S word n).2 = false) (hl : 16384 ≤ S.ns.length) : putNodeV S word n = ((0, 18), S) := by
  unfold putNodeV; rw [if_neg (by rw [h]; simp), if_pos hl]
theorem putNodeV_new {S : SS} {word : ByteArray} {n : Nd} (h : (findV S word n).2 = false) (hl : S.ns.length < 16384) : putNodeV S word n = (((S.ns.length : Int), 0), ⟨S.xs, Sym.put S.ws word, S.ns ++ [(n.at0 (Sym.ansN S.ws word)).list]⟩) := by
  unfold putNodeV; rw [if_neg (by rw [h]; simp), if_neg (by omega)]

/-- What holds of every store: no more words than nodes, and each node's word has a number. -/
structure SS.Ok (S : SS) : Prop where
  words : S.ws.length ≤ S.ns.length
  heads : ∀ l ∈ S.ns, ∃ w : Nat, w < S.ws.length ∧ l.head? = some (w : Int)
theorem at0_head (n : Nd) (x : Int) : (n.at0 x).list.head? = some x := rfl
theorem ansN_lt {xs : List ByteArray} {s : ByteArray} (h : xs.length < 16384) : Sym.ansN xs s < (Sym.put xs s).length := by
  unfold Sym.ansN Sym.put
  cases ht : Sym.there xs s with
  | true => simp only [if_true]; exact (Sym.num_at ht).2
  | false => simp only [Bool.false_eq_true, if_false, if_neg (show ¬ 16384 ≤ xs.length by omega)]; simp
theorem put_len_ge (xs : List ByteArray) (s : ByteArray) : xs.length ≤ (Sym.put xs s).length := (Sym.put_prefix xs s).length_le
/-- The new node is none of the old ones. -/
theorem new_node {S : SS} {word : ByteArray} {n : Nd} (ok : S.Ok) (h : (findV S word n).2 = false) (hl : S.ns.length < 16384) : (n.at0 (Sym.ansN S.ws word)).list ∉ S.ns := fun hm => by
  cases ht : Sym.there S.ws word with
  | true =>
    unfold findV at h
    rw [if_pos ht] at h
    simp only [nThere, decide_eq_false_iff_not] at h
    unfold Sym.ansN at hm
    rw [if_pos ht] at hm
    exact h hm
  | false =>
    obtain ⟨w, hw, he⟩ := ok.heads _ hm
    rw [at0_head] at he
    injection he with he
    unfold Sym.ansN at he
    rw [if_neg (by rw [ht]; simp), if_neg (by have := ok.words; omega)] at he
    omega
theorem putNodeV_ok {S : SS} {word : ByteArray} {n : Nd} (ok : S.Ok) : (putNodeV S word n).2.Ok := by
  cases h : (findV S word n).2 with
  | true => rw [putNodeV_there h]; exact ok
  | false =>
    by_cases hl : 16384 ≤ S.ns.length
    · rw [putNodeV_full h hl]; exact ok
    · rw [putNodeV_new h (by omega)]
      refine ⟨?_, ?_⟩
      · have := Sym.put_length_le S.ws word
        have := ok.words
        simp only [List.length_append, List.length_cons, List.length_nil]; omega
      · intro l hm
        rcases List.mem_append.1 hm with hm | hm
        · obtain ⟨w, hw, he⟩ := ok.heads l hm
          exact ⟨w, Nat.lt_of_lt_of_le hw (put_len_ge _ _), he⟩
        · simp only [List.mem_cons, List.not_mem_nil, or_false] at hm
          subst hm
          exact ⟨_, ansN_lt (by have := ok.words; omega), at0_head _ _⟩
theorem argsTo_ok {f : Nat → SS → (Int × Int) × SS} : ∀ {k : Nat} {S : SS}, (∀ i, i < k → ∀ S, S.Ok → (f i S).2.Ok) → S.Ok → (argsTo f k S).S.Ok
  | 0, _, _, ok => ok
  | k + 1, S, h, ok => by
    have ih := argsTo_ok (f := f) (k := k) (fun i hi => h i (by omega)) ok
    rw [argsTo_succ]
    split
    · exact h k (by omega) _ ih
    · exact ih
theorem putV_ok : ∀ v : V, ∀ S : SS, S.Ok → (v.kind = 1 ∨ v.kind = 2 ∨ v.kind = 3) → (∀ i, i < v.len → ∀ S, S.Ok → ((v.kid i).putV S).2.Ok) → (v.putV S).2.Ok := fun v S ok hk hkid => by
  rcases hk with h | h | h
  · rw [V.putV_num h]; exact ok
  · rw [V.putV_sym h]; exact ⟨ok.words, ok.heads⟩
  · rw [V.putV_con h]
    have := argsTo_ok (f := fun i S => (v.kid i).putV S) (k := v.len) (S := S) hkid ok
    split
    · exact putNodeV_ok this
    · exact this

end Go.Proofs.YtbfkcfhkccicoaaDoor

namespace Go.Proofs.YtbfkcfhkccicoaaDoor
open Go.RowKit Go.Maps Go.WideMaps

set_option maxRecDepth 100000 in
set_option maxHeartbeats 8000000 in
theorem putNode_old {W : World} {p : SP} {S : SS} (h : Sto W p S) (word : ByteArray) (n : Nd) (hw : word.size ≤ 64) (hn : InBits n.list) (hold : (findV S word n).2 = true ∨ 16384 ≤ S.ns.length) :
    Calls Tryd.prog 33 #[.pointer (some ⟨p.hb, 0, none⟩), .string word, ndVal n.list] W fun e w' => e = .returned (.tuple #[.int .i64 (putNodeV S word n).1.1, .int .i64 (putNodeV S word n).1.2]) ∧
      ∃ p', Sto w' p' (putNodeV S word n).2 ∧ Step W w' p p' := by
  have hlen := h.len
  have hfind := find_any (h.later (below_box W (.cells (n.list.map (Value.int .i64)).toArray 81))) word n hw hn
  have hbb := below_box W (.cells (n.list.map (Value.int .i64)).toArray 81)
  rw [ndVal_nd] at hfind ⊢
  rw [nd_obj] at hfind hbb
  have HF := hide hfind
  have HB := hide hbb
  clear hfind hbb
  cases hf : (findV S word n).2 with
  | true =>
    have H := hide (putNodeV_there hf)
    have H1 : Hid ((putNodeV S word n).1 = ((findV S word n).1, 0)) := by show _ = _; rw [unhide H]
    go_enter Tryd.func33, Tryd.ntmps33
    go_wp2_with fail
    refine (unhide HF).mono ?_
    rintro e w1 ⟨rfl, b1⟩
    have bw : Below W.heap.size W w1 := (unhide HB).trans (b1.mono (by simp))
    clear b1
    go_wp2_with fail
    go_ret2
    refine ⟨ret_ii (unhide H1), p, ?_, (Step.refl W p).after bw⟩
    rw [unhide H]; exact h.later bw
  | false =>
    have hl : 16384 ≤ S.ns.length := hold.resolve_left (by rw [hf]; simp)
    · have H := hide (putNodeV_full hf hl)
      have H1 : Hid ((putNodeV S word n).1 = (0, 18)) := by show _ = _; rw [unhide H]
      have hli : decide ((16384 : Int) ≤ (S.ns.length : Int)) = true := decide_eq_true (by omega)
      clear hl
      go_enter Tryd.func33, Tryd.ntmps33
      go_wp2_with fail
      refine (unhide HF).mono ?_
      rintro e w1 ⟨rfl, b1⟩
      have bw : Below W.heap.size W w1 := (unhide HB).trans (b1.mono (by simp))
      have d2 := (h.later bw).d2
      clear b1
      go_wp2_with fail
      go_ret2
      refine ⟨ret_ii (unhide H1), p, ?_, (Step.refl W p).after bw⟩
      rw [unhide H]; exact h.later bw
end Go.Proofs.YtbfkcfhkccicoaaDoor

namespace Go.Proofs.YtbfkcfhkccicoaaDoor
open Go.RowKit Go.Maps Go.WideMaps

/-- The row has the node, the map has it not yet. -/
structure Mid (W wx : World) (p : SP) (S : SS) (l : List Int) (na' : Option Addr) (nc' : Nat) : Prop where
  st : wx.heap[p.sb]? = some (.cells #[.pointer (some ⟨p.hb, 0, none⟩)] 54 (0, 0))
  held : wx.heap[p.hb]? = some (.cells #[.pointer (some ⟨p.t1, 0, none⟩), .pointer (some ⟨p.t2, 0, none⟩), .slice na' (S.ns.length + 1) nc', .map (some p.mb)] 52 (0, 0))
  T1 : Sym.Tab wx p.base p.t1 p.h1 p.m1 p.a1 p.c1 S.xs
  T2 : Sym.Tab wx p.base p.t2 p.h2 p.m2 p.a2 p.c2 S.ws
  row : NRow wx p.base na' nc' (S.ns ++ [l])
  map : ∃ D : DataW Unit, wx.ownsMap Tryd.prog 81 (plainElem Tryd.prog 3) p.mb S.ns.length D ∧ NTies D S.ns
  turn : Turn (fun k => k = p.hb ∨ p.na.map Addr.block = some k) W wx
  at_ : na'.map Addr.block = p.na.map Addr.block ∨ ∃ g, na'.map Addr.block = some g ∧ W.heap.size ≤ g

set_option maxRecDepth 100000 in
theorem mid_of {W U w4 : World} {p : SP} {S : SS} {l : List Int} {na' : Option Addr} {nc' : Nat} (h : Sto W p S) (hU : Below W.heap.size W U) (hrow : NRow w4 p.base na' nc' (S.ns ++ [l])) (hg : U.grownBy w4 (p.na.map Addr.block))
    (hat : na'.map Addr.block = p.na.map Addr.block ∨ na'.map Addr.block = some U.heap.size) :
    Mid W (w4.setCell ⟨p.hb, 2, none⟩ (.slice na' (S.ns.length + 1) nc')) p S l na' nc' := by
  have t1 : Turn (fun k => k = p.hb ∨ p.na.map Addr.block = some k) W U := Turn.of_below hU
  have t2 : Turn (fun k => k = p.hb ∨ p.na.map Addr.block = some k) U w4 := Turn.of_grownBy hg (fun k e => .inr e)
  have t3 : Turn (fun k => k = p.hb ∨ p.na.map Addr.block = some k) w4 (w4.setCell ⟨p.hb, 2, none⟩ (.slice na' (S.ns.length + 1) nc')) := Turn.setCell (S := fun k => k = p.hb ∨ p.na.map Addr.block = some k) _ _ _ (.inl rfl)
  have t := (t1.trans t2 (fun _ _ e => e)).trans t3 (fun _ _ e => e)
  have hn := h.hb_not
  have held4 : w4.heap[p.hb]? = some (.cells #[.pointer (some ⟨p.t1, 0, none⟩), .pointer (some ⟨p.t2, 0, none⟩), .slice p.na S.ns.length p.nc, .map (some p.mb)] 52 (0, 0)) :=
    (hg.block p.hb (Nat.lt_of_lt_of_le (Sym.lt_of_heap h.held) hU.size) (fun e => hn.2.2.2 e.symm)).trans ((hU.block _ (Sym.lt_of_heap h.held)).trans h.held)
  have not : ∀ k, (k = p.sb ∨ p.one k ∨ p.two k ∨ k = p.mb) → ¬ (k = p.hb ∨ p.na.map Addr.block = some k) := fun k e e2 => by
    rcases e2 with e2 | e2
    · subst e2
      rcases e with e | e | e | e
      · exact h.sb_not (.inl e.symm)
      · exact hn.2.1 e
      · exact hn.2.2.1 e
      · exact hn.1 e
    · have hr := h.row_not k e2
      rcases e with e | e | e | e
      · subst e; exact h.sb_not (.inr (.inr (.inr (.inr e2))))
      · exact hr.2.1 e
      · exact hr.2.2 e
      · exact hr.1 e
  obtain ⟨D, ⟨es, clock, hmb, hr⟩, hD⟩ := h.map
  have hrow4 : NRow (w4.setCell ⟨p.hb, 2, none⟩ (.slice na' (S.ns.length + 1) nc')) p.base na' nc' (S.ns ++ [l]) := hrow.stays (Q := fun k => k = p.hb) (Turn.setCell (S := fun k => k = p.hb) _ _ _ rfl) (fun k e e2 => by
    subst e2
    obtain ⟨_, cur, hc⟩ := hrow.obj _ e
    rw [held4] at hc
    simp at hc)
  refine ⟨(t.block _ (Sym.lt_of_heap h.st) (not _ (.inl rfl))).trans h.st, ?_, h.T1.stays t (fun k e => not k (.inr (.inl e))), h.T2.stays t (fun k e => not k (.inr (.inr (.inl e)))), hrow4,
    ⟨D, ⟨es, clock, (t.block _ (Sym.lt_of_heap hmb) (not _ (.inr (.inr (.inr rfl))))).trans hmb, hr⟩, hD⟩, t, hat.imp id (fun e => ⟨_, e, hU.size⟩)⟩
  simp [World.setCell, Array.getElem?_modify, held4]

set_option maxRecDepth 100000 in
theorem fin_of {W wx w6 : World} {p : SP} {S : SS} {n : Nd} {na' : Option Addr} {nc' : Nat} {D : DataW Unit} {kl : Lit} (h : Sto W p S) (m : Mid W wx p S n.list na' nc') (hl : S.ns.length < 16384) (hD : NTies D S.ns)
    (hk : keyOf Tryd.prog 81 (ndVal n.list) = some kl) (hnew : n.list ∉ S.ns) (hm6 : w6.ownsMap Tryd.prog 81 (plainElem Tryd.prog 3) p.mb (S.ns.length + 1) (D.put kl (.lit (.int .i64 (S.ns.length : Int))))) (hg6 : wx.grownBy w6 (some p.mb)) :
    Sto w6 { p with na := na', nc := nc' } ⟨S.xs, S.ws, S.ns ++ [n.list]⟩ ∧ Step W w6 p { p with na := na', nc := nc' } := by
  have t : Turn (fun k => k = p.mb) wx w6 := Turn.of_grownBy hg6 (fun k e => by injection e with e; exact e.symm)
  have hn := h.hb_not
  have own' : ∀ k, ({ p with na := na', nc := nc' } : SP).own k → p.own k ∨ W.heap.size ≤ k := by
    rintro k (e | e | e | e | e)
    · exact .inl (.inl e)
    · exact .inl (.inr (.inl e))
    · exact .inl (.inr (.inr (.inl e)))
    · exact .inl (.inr (.inr (.inr (.inl e))))
    · rcases m.at_ with e2 | ⟨g, e2, e3⟩
      · exact .inl (.inr (.inr (.inr (.inr (e2 ▸ e)))))
      · have e4 : some g = some k := e2.symm.trans e
        injection e4 with e4
        exact .inr (by omega)
  refine ⟨⟨(t.block _ (Sym.lt_of_heap m.st) (fun e => h.sb_not (.inr (.inl e)))).trans m.st, ?_, m.T1.stays t (fun k e e2 => h.mb1 (e2 ▸ e)), m.T2.stays t (fun k e e2 => h.mb2 (e2 ▸ e)), m.row.stays t (fun k e e2 => ?_),
    ⟨_, by simpa using hm6, hD.snoc hk hnew⟩, by simp; omega, h.apart, h.mb1, h.mb2, h.low⟩, ?_, own', rfl, rfl, rfl⟩
  · have := (t.block _ (Sym.lt_of_heap m.held) (fun e => hn.1 e)).trans m.held
    simpa using this
  · subst e2
    obtain ⟨_, cur, hc⟩ := m.row.obj _ e
    obtain ⟨D2, ⟨es, clock, hmb, _⟩, _⟩ := m.map
    rw [hmb] at hc; cases hc
  · refine (m.turn.mono (fun k e => ?_)).trans t (fun k _ e => .inr (.inl e))
    rcases e with e | e
    · exact .inl e
    · exact .inr (.inr (.inr (.inr e)))
end Go.Proofs.YtbfkcfhkccicoaaDoor
