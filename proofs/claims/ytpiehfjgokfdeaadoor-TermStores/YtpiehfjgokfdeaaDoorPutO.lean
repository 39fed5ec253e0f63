/- Walk of putting a node that is there, or where there is no room: putNode. -/
import Derived.Test.YtpiehfjgokfdeaaDoorPutN
namespace Go.Proofs.YtpiehfjgokfdeaaDoor
open Go.RowKit Go.Maps Go.WideMaps

set_option maxRecDepth 100000 in
set_option maxHeartbeats 8000000 in
theorem putNode_old {W : World} {p : SP} {S : SS} (h : Sto W p S) (word : ByteArray) (n : Nd) (hw : word.size ≤ 64) (hn : InBits n.list) (hold : (findV S word n).2 = true ∨ 16384 ≤ S.ns.length) :
    Calls Tryd.prog 62 #[.pointer (some ⟨p.hb, 0, none⟩), .string word, ndVal n.list] W fun e w' => e = .returned (.tuple #[.int .i64 (putNodeV S word n).1.1, .int .i64 (putNodeV S word n).1.2]) ∧
      ∃ p', Sto w' p' (putNodeV S word n).2 ∧ Step W w' p p' := by
  have hlen := h.len
  have hfind := find_any (h.later (below_box W (.cells (n.list.map (Value.int .i64)).toArray 98))) word n hw hn
  have hbb := below_box W (.cells (n.list.map (Value.int .i64)).toArray 98)
  rw [ndVal_nd] at hfind ⊢
  rw [nd_obj] at hfind hbb
  have HF := hide hfind
  have HB := hide hbb
  clear hfind hbb
  cases hf : (findV S word n).2 with
  | true =>
    have H := hide (putNodeV_there hf)
    have H1 : Hid ((putNodeV S word n).1 = ((findV S word n).1, 0)) := by show _ = _; rw [unhide H]
    go_enter Tryd.func62, Tryd.ntmps62
    go_wp2_with fail
    refine (unhide HF).mono ?_
    rintro e w1 ⟨rfl, b1⟩
    have bw : Below W.heap.size W w1 := (unhide HB).trans (b1.mono (by simp))
    clear b1
    go_wp2_with fail
    go_ret2
    refine ⟨ret_ii (unhide H1), p, ?_, (Step.refl W p).after bw⟩
    rw [unhide H]; exact h.later bw
  | false =>
    have hl : 16384 ≤ S.ns.length := hold.resolve_left (by rw [hf]; simp)
    · have H := hide (putNodeV_full hf hl)
      have H1 : Hid ((putNodeV S word n).1 = (0, 18)) := by show _ = _; rw [unhide H]
      have hli : decide ((16384 : Int) ≤ (S.ns.length : Int)) = true := decide_eq_true (by omega)
      clear hl
      go_enter Tryd.func62, Tryd.ntmps62
      go_wp2_with fail
      refine (unhide HF).mono ?_
      rintro e w1 ⟨rfl, b1⟩
      have bw : Below W.heap.size W w1 := (unhide HB).trans (b1.mono (by simp))
      have d2 := (h.later bw).d2
      clear b1
      go_wp2_with fail
      go_ret2
      refine ⟨ret_ii (unhide H1), p, ?_, (Step.refl W p).after bw⟩
      rw [unhide H]; exact h.later bw
end Go.Proofs.YtpiehfjgokfdeaaDoor
