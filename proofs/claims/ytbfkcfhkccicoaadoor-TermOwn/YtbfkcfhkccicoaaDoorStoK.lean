/- Nodes: eighteen numbers; a node as a map's key; a node in a block. -/
import Derived.Test.YtbfkcfhkccicoaaDoorSymW
import Derived.DeepKeys4
namespace Go.Proofs.YtbfkcfhkccicoaaDoor
open Go.RowKit Go.Maps Go.WideMaps

/-- A node's numbers by their place: its word, its width, the kinds, the numbers. -/
abbrev Nd := Nat → Int
/-- As a list. -/
def Nd.list (n : Nd) : List Int := (List.range 18).map n
/-- As Go's value. -/
def ndVal (l : List Int) : Value := .agg (l.map (Value.int .i64)).toArray
theorem Nd.len (n : Nd) : n.list.length = 18 := by simp [Nd.list]
theorem ndVal_nd (n : Nd) : ndVal n.list = .agg #[.int .i64 (n 0), .int .i64 (n 1), .int .i64 (n 2), .int .i64 (n 3), .int .i64 (n 4), .int .i64 (n 5), .int .i64 (n 6), .int .i64 (n 7), .int .i64 (n 8), .int .i64 (n 9),
    .int .i64 (n 10), .int .i64 (n 11), .int .i64 (n 12), .int .i64 (n 13), .int .i64 (n 14), .int .i64 (n 15), .int .i64 (n 16), .int .i64 (n 17)] := rfl
def InBits (l : List Int) : Prop := ∀ x ∈ l, -9223372036854775808 ≤ x ∧ x ≤ 9223372036854775807

theorem law98 : Keyed Tryd.prog 81 :=
  Keyed.of_law (deep_law_laid (by kernel_rfl) (m := 3) (by omega) (of_decide_eq_true (by kernel_rfl)) (by kernel_rfl) (by rw [Tryd.underlying81]))

theorem lits3 (d : Nat) {n : Int} (h : -9223372036854775808 ≤ n ∧ n ≤ 9223372036854775807) : Tryd.prog.keyLits (d + 1) 3 [.int .i64 n] = some [.int .i64 n] := by
  unfold Program.keyLits
  rw [Tryd.underlying3]
  simp [WalkArith.wf_i64 h]

theorem mapM_lits (d : Nat) : ∀ (l : List Int), InBits l → (l.map fun n => [Value.int .i64 n]).mapM (Tryd.prog.keyLits (d + 1) 3) = some (l.map fun n => [Lit.int .i64 n])
  | [], _ => rfl
  | n :: l, h => by
    rw [List.map_cons, List.mapM_cons, lits3 d (h n (by simp)), mapM_lits d l (fun x hx => h x (by simp [hx]))]
    rfl

theorem mapM_range_some {α : Type} {f : Nat → Option α} {g : Nat → α} : ∀ (n : Nat), (∀ i, i < n → f i = some (g i)) → (List.range n).mapM f = some ((List.range n).map g)
  | 0, _ => rfl
  | n + 1, h => by
    rw [List.range_succ, List.mapM_append, mapM_range_some n (fun i hi => h i (by omega))]
    simp [h n (by omega)]

set_option maxRecDepth 10000 in
theorem lits96 (d : Nat) (l : List Int) (hl : l.length = 8) (h : InBits l) : Tryd.prog.keyLits (d + 2) 79 (l.map (Value.int .i64)) = some (l.map (Lit.int .i64)) := by
  unfold Program.keyLits
  rw [Tryd.underlying79]
  have c96 : Tryd.prog.cellsOf 79 = 8 := by kernel_rfl
  have c3 : Tryd.prog.cellsOf 3 = 1 := by kernel_rfl
  simp only [List.length_map, hl, c96, if_true, c3, Nat.mul_one]
  have e : (List.range 8).mapM (fun i => Tryd.prog.keyLits (d + 1) 3 (((l.map (Value.int .i64)).drop i).take 1)) = some ((List.range 8).map fun i => [Lit.int .i64 (l.getD i 0)]) := by
    refine mapM_range_some 8 fun i hi => ?_
    have hi2 : i < l.length := by omega
    rw [← List.map_drop, ← List.map_take, List.drop_eq_getElem_cons hi2, List.take_succ_cons, List.take_zero, List.map_cons, List.map_nil, lits3 d (h _ (List.getElem_mem hi2))]
    simp [List.getD, hi2]
  rw [e]
  match l, hl with
  | [a0, a1, a2, a3, a4, a5, a6, a7], _ => rfl

set_option maxRecDepth 10000 in
theorem key_node (n : Nd) (h : InBits n.list) : ∃ kl, keyOf Tryd.prog 81 (ndVal n.list) = some kl := by
  unfold keyOf
  rw [Tryd.underlying81]
  have hk : Tryd.prog.keyType 81 = true := by kernel_rfl
  have c98 : Tryd.prog.cellsOf 81 = 18 := by kernel_rfl
  have c96 : Tryd.prog.cellsOf 79 = 8 := by kernel_rfl
  have c3 : Tryd.prog.cellsOf 3 = 1 := by kernel_rfl
  have hf : (ndVal n.list).formed Tryd.prog 81 = true := by
    unfold ndVal Value.formed
    rw [Tryd.underlying81]
    simp [c98, Nd.len]
  obtain ⟨d, hsz⟩ : ∃ d, Tryd.prog.types.size + 1 = d + 4 := ⟨Tryd.prog.types.size + 1 - 4, by
    have : 10 ≤ Tryd.prog.types.size := of_decide_eq_true (by kernel_rfl)
    omega⟩
  simp only [hk, hf, Bool.and_self, if_true]
  refine ⟨.string (keyBytes (n.list.map (Lit.int .i64))), ?_⟩
  rw [hsz]
  unfold Program.keyLits
  rw [Tryd.underlying81]
  have hin : ∀ i, i < 18 → -9223372036854775808 ≤ n i ∧ n i ≤ 9223372036854775807 := fun i hi => h (n i) (by simp [Nd.list]; exact ⟨i, hi, rfl⟩)
  have e0 := lits3 (d + 2) (hin 0 (by omega))
  have e1 := lits3 (d + 2) (hin 1 (by omega))
  have e2 := lits96 (d + 1) [n 2, n 3, n 4, n 5, n 6, n 7, n 8, n 9] rfl (fun x hx => by
    simp only [List.mem_cons, List.not_mem_nil, or_false] at hx
    rcases hx with rfl | rfl | rfl | rfl | rfl | rfl | rfl | rfl <;> exact hin _ (by omega))
  have e3 := lits96 (d + 1) [n 10, n 11, n 12, n 13, n 14, n 15, n 16, n 17] rfl (fun x hx => by
    simp only [List.mem_cons, List.not_mem_nil, or_false] at hx
    rcases hx with rfl | rfl | rfl | rfl | rfl | rfl | rfl | rfl <;> exact hin _ (by omega))
  simp only [List.map_cons, List.map_nil] at e2 e3
  rw [ndVal_nd]
  simp [Value.cells, c98, c96, c3, e0, e1, e2, e3, List.mapM_cons, Nd.list, List.range_succ]
end Go.Proofs.YtbfkcfhkccicoaaDoor
