/- Walk of the search for a node: find. -/
import Derived.Test.YtbfkcfhkccicoaaDoorStoN
import Derived.BigQuiet
namespace Go.Proofs.YtbfkcfhkccicoaaDoor
open Go.RowKit Go.Maps Go.WideMaps

/-- The node with its word set. -/
def Nd.at0 (n : Nd) (x : Int) : Nd := fun j => if j = 0 then x else n j
/-- What 'find' answers. -/
def findV (S : SS) (word : ByteArray) (n : Nd) : Int × Bool :=
  if Sym.there S.ws word = true then ((nNum S.ns (n.at0 (Sym.num S.ws word)).list : Int), nThere S.ns (n.at0 (Sym.num S.ws word)).list) else (0, false)

theorem owns_heap {w w' : World} {mb n : Nat} {D : DataW Unit} (h : w.ownsMap Tryd.prog 81 (plainElem Tryd.prog 3) mb n D) (e : w'.heap = w.heap) : w'.ownsMap Tryd.prog 81 (plainElem Tryd.prog 3) mb n D := by
  obtain ⟨es, clock, hm, r⟩ := h
  exact ⟨es, clock, by rw [e]; exact hm, r⟩
theorem heap_drewN (w : World) (m : Nat) : (w.drewN m).heap = w.heap := by
  induction m with
  | zero => rfl
  | succ m ih => exact ih

theorem below_drewN {B : Nat} {w w' : World} (h : Below B w w') (m : Nat) : Below B w (w'.drewN m) := by
  induction m with
  | zero => exact h
  | succ m ih => exact ih.drew
theorem ret_ib {x : Int × Bool} {a : Int} {b : Bool} (h : x = (a, b)) : Ending.returned (.tuple #[.int .i64 a, .bool b]) = .returned (.tuple #[.int .i64 x.1, .bool x.2]) := by rw [h]

set_option maxRecDepth 100000 in
/-- A look at the map of nodes. -/
theorem look_node {W : World} {p : SP} {S : SS} (h : Sto W p S) (n : Nd) (hn : InBits n.list) (w' : World) (he : Below W.heap.size W w') : ∀ m, (Instr.lookup 49 (.map (some p.mb)) (ndVal n.list) true).run Tryd.prog (w'.drewN m) =
    .ok (.tuple #[.int .i64 (nNum S.ns n.list : Int), .bool (nThere S.ns n.list)]) (w'.drewN m) := fun m => by
  obtain ⟨D, hm, hD⟩ := (h.later he).map
  obtain ⟨kl, hk⟩ := key_node n hn
  obtain ⟨v, ps, hrun, hv⟩ := (owns_heap hm (heap_drewN w' m)).look_ok law98 Tryd.underlying49 (Tryd.zeroValue3 _) (plainElem_int (H := Unit) Tryd.underlying3 (by decide)) hk
  obtain ⟨c, rfl, hc, hwc⟩ := plainElem_int_inv Tryd.underlying3 hv
  have h2 := hD.2 n kl hn hk
  have hc2 := congrArg Prod.fst hc
  simp only at hc2
  rw [h2.2] at hc2
  injection hc2 with hc2
  injection hc2 with _ hc2
  rw [hrun, h2.1, hc2]

set_option maxRecDepth 100000 in
set_option maxHeartbeats 4000000 in
theorem find_any {W : World} {p : SP} {S : SS} (h : Sto W p S) (word : ByteArray) (n : Nd) (hw : word.size ≤ 64) (hn : InBits n.list) :
    Calls Tryd.prog 52 #[.pointer (some ⟨p.hb, 0, none⟩), .string word, ndVal n.list] W fun e w' => e = .returned (.tuple #[.int .i64 (findV S word n).1, .bool (findV S word n).2]) ∧ Below W.heap.size W w' := by
  have d1 := fun o => (h.later (below_box W o)).d1
  have hget := fun o => Sym.get_any (h.later (below_box W o)).T2 word (by omega)
  rw [ndVal_nd]
  cases ht : Sym.there S.ws word with
  | false =>
    have H : Hid (findV S word n = (0, false)) := by show _ = _; unfold findV; rw [ht]; rfl
    have HG := hide hget
    clear hget
    go_enter Tryd.func52, Tryd.ntmps52
    go_wp2_with fail
    refine (unhide HG _).mono ?_
    rintro e w2 ⟨rfl, rfl⟩
    go_wp2_with fail
    go_ret2
    exact ⟨ret_ib (unhide H), (Below.refl _ W).alloc (Nat.le_refl _) _⟩
  | true =>
    have H : Hid (findV S word n = ((nNum S.ns (n.at0 (Sym.num S.ws word)).list : Int), nThere S.ns (n.at0 (Sym.num S.ws word)).list)) := by show _ = _; unfold findV; rw [ht]; rfl
    have hnum := Sym.num_at ht
    have hln := h.T2.len
    have hin2 : InBits (n.at0 (Sym.num S.ws word)).list := fun x hx => by
      simp only [Nd.list, List.mem_map, List.mem_range] at hx
      obtain ⟨j, hj, rfl⟩ := hx
      unfold Nd.at0
      split
      · omega
      · exact hn (n j) (by simp [Nd.list]; exact ⟨j, hj, rfl⟩)
    have hlook := fun o => look_node h (n.at0 (Sym.num S.ws word)) hin2 (W.alloc o) (below_box W o)
    rw [ndVal_nd] at hlook
    simp only [Nd.at0, if_true, show ¬ (1 = 0) by omega, show ¬ (2 = 0) by omega, show ¬ (3 = 0) by omega, show ¬ (4 = 0) by omega, show ¬ (5 = 0) by omega, show ¬ (6 = 0) by omega, show ¬ (7 = 0) by omega, show ¬ (8 = 0) by omega, show ¬ (9 = 0) by omega,
      show ¬ (10 = 0) by omega, show ¬ (11 = 0) by omega, show ¬ (12 = 0) by omega, show ¬ (13 = 0) by omega, show ¬ (14 = 0) by omega, show ¬ (15 = 0) by omega, show ¬ (16 = 0) by omega, show ¬ (17 = 0) by omega, if_false] at hlook
    have d3 := fun o => (h.later (below_box W o)).d3
    have HG := hide hget
    clear hget hin2
    generalize nNum S.ns (n.at0 (Sym.num S.ws word)).list = A at *
    generalize nThere S.ns (n.at0 (Sym.num S.ws word)).list = Bq at *
    generalize hq : (Sym.num S.ws word : Int) = q at *
    go_enter Tryd.func52, Tryd.ntmps52
    go_wp2_with fail
    refine (unhide HG _).mono ?_
    rintro e w2 ⟨rfl, rfl⟩
    go_wp2_with fail
    go_quiet (fail)
    go_wp2_with fail
    go_ret2
    exact ⟨ret_ib (unhide H), below_drewN ((Below.refl _ W).alloc (Nat.le_refl _) _) _⟩
end Go.Proofs.YtbfkcfhkccicoaaDoor
