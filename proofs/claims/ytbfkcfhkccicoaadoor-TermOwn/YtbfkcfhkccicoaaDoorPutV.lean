/- Walk of putting a value: held.put, Put. -/
import Derived.Test.YtbfkcfhkccicoaaDoorPutB
import Derived.Deep.RegionWith
namespace Go.Proofs.YtbfkcfhkccicoaaDoor
open Go.RowKit Go.Maps Go.WideMaps

/-- What putNode does. -/
def PutNodeC : Prop := ∀ (W : World) (p : SP) (S : SS), Sto W p S → S.Ok → ∀ (word : ByteArray) (n : Nd), word.size ≤ 64 → InBits n.list →
  Calls Tryd.prog 33 #[.pointer (some ⟨p.hb, 0, none⟩), .string word, ndVal n.list] W fun e w' => e = .returned (.tuple #[.int .i64 (putNodeV S word n).1.1, .int .i64 (putNodeV S word n).1.2]) ∧
    ∃ p', Sto w' p' (putNodeV S word n).2 ∧ Step W w' p p'

def PutC (v : V) : Prop := ∀ (B : Nat) (W : World) (p : SP) (S : SS) (d : Nat), v.At B W → B ≤ W.heap.size → (∀ k, v.uses k → ¬ p.own k) → Sto W p S → S.Ok → v.may d = true →
  Calls Tryd.prog 23 #[.pointer (some ⟨p.hb, 0, none⟩), v.val] W fun e w' => e = .returned (.tuple #[.int .i64 (v.putV S).1.1, .int .i64 (v.putV S).1.2]) ∧
    ∃ p', Sto w' p' (v.putV S).2 ∧ Step W w' p p'

theorem ret_ii' {x : Int × Int} {a b : Int} (h : x = (a, b)) : Ending.returned (.tuple #[.int .i64 a, .int .i64 b]) = .returned (.tuple #[.int .i64 x.1, .int .i64 x.2]) := by rw [h]

set_option maxHeartbeats 4000000 in
theorem put_num (v : V) (W : World) (p : SP) (S : SS) (h : Sto W p S) (hk : v.kind = 1) :
    Calls Tryd.prog 23 #[.pointer (some ⟨p.hb, 0, none⟩), v.val] W fun e w' => e = .returned (.tuple #[.int .i64 (v.putV S).1.1, .int .i64 (v.putV S).1.2]) ∧ ∃ p', Sto w' p' (v.putV S).2 ∧ Step W w' p p' := by
  have H := hide (V.putV_num hk S)
  have H1 : Hid ((v.putV S).1 = (v.num, 0)) := by show _ = _; rw [unhide H]
  go_enter Tryd.func23, Tryd.ntmps23
  go_wp2_with fail
  go_ret2
  refine ⟨ret_ii' (unhide H1), p, ?_, (Step.refl W p).after (below_box W _)⟩
  rw [unhide H]; exact h.later (below_box W _)

set_option maxHeartbeats 4000000 in
theorem put_sym (v : V) (W : World) (p : SP) (S : SS) (h : Sto W p S) (hk : v.kind = 2) (hs : v.str.size ≤ 65536) :
    Calls Tryd.prog 23 #[.pointer (some ⟨p.hb, 0, none⟩), v.val] W fun e w' => e = .returned (.tuple #[.int .i64 (v.putV S).1.1, .int .i64 (v.putV S).1.2]) ∧ ∃ p', Sto w' p' (v.putV S).2 ∧ Step W w' p p' := by
  have H := hide (V.putV_sym hk S)
  have H1 : Hid ((v.putV S).1 = ((Sym.ansN S.xs v.str : Int), Sym.ansE S.xs v.str)) := by show _ = _; rw [unhide H]
  have d0 := fun o => (h.later (below_box W o)).d0
  have hput : ∀ o, Calls Tryd.prog 32 #[.pointer (some ⟨p.t1, 0, none⟩), .string v.str] (W.alloc o).drew fun e w' => e = .returned (.tuple #[.int .i64 (Sym.ansN S.xs v.str : Int), .int .i64 (Sym.ansE S.xs v.str)]) ∧
      ∃ p', Sto w' p' (v.putV S).2 ∧ Step W w' p p' := fun o => by
    have h2 : Sto (W.alloc o).drew p S := h.later (below_box W o).drew
    refine (Sym.put_any h2.T1 v.str (by omega)).mono ?_
    rintro e w' ⟨rfl, a', c', L⟩
    obtain ⟨h3, s3⟩ := h2.put1 L
    exact ⟨rfl, _, by rw [unhide H]; exact h3, s3.before (below_box W o).drew⟩
  have HP := hide hput
  clear hput
  go_enter Tryd.func23, Tryd.ntmps23
  go_wp2_with fail
  go_region_with (go_at_call 32; refine (unhide HP _).mono ?_; rintro e w' ⟨rfl, hw⟩)
  all_goals
    go_wp2_with fail
    go_ret2
    exact ⟨ret_ii' (unhide H1), hw⟩
end Go.Proofs.YtbfkcfhkccicoaaDoor
