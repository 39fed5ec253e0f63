/- Clear, and whether two sets can be put together. -/
import Derived.Test.YtmjlhmhkbfnccaaTups
import Derived.Deep.RegionWith
namespace Go.Proofs.Ytmjlhmhkbfnccaa
open Go.RowKit Go.Shelf

set_option maxRecDepth 100000 in
set_option maxHeartbeats 4000000 in
theorem clear_T (S : Nat → Prop) (w : World) (sb hb : Nat) (o : List Int) (xs : List (List Int)) (h : SetT S w sb hb o xs) :
    Calls Try.prog 34 #[.pointer (some ⟨sb, 0, none⟩)] w fun e w' => (∃ v, e = .returned v) ∧ SetT S w' sb hb o [] ∧ Keeps (fun b => b = hb) w w' := by
  obtain ⟨l, h, _, _⟩ := h
  obtain ⟨ov, p, d, hh, hov, _⟩ := h.held
  obtain ⟨c0, c1, c2, f0, f1, f2⟩ := three_cells hh
  have s0 := h.s0
  have hm := made_any w sb hb h.s0
  have hlt := lt_heap hh
  have hslt := h.slt
  have hne : sb ≠ hb := fun e => h.ns (e ▸ h.ss)
  have DONE : Hid (∀ w2 : World, w2.heap = (((w.setCell ⟨hb, 1, none⟩ (.pointer none)).setCell ⟨hb, 2, none⟩ (.int .i64 0)).heap) → w2.os = w.os → w2.tape = w.tape → w2.output = w.output → SetT S w2 sb hb o [] ∧ Keeps (fun b => b = hb) w w2) := fun w2 e1 e2 e3 e4 => by
    have hK : Keeps (fun b => b = hb) w ((w.setCell ⟨hb, 1, none⟩ (.pointer none)).setCell ⟨hb, 2, none⟩ (.int .i64 0)) := ((Keeps.refl (fun b => b = hb) w).setCell ⟨hb, 1, none⟩ rfl _).setCell ⟨hb, 2, none⟩ rfl _
    have hW := set_heap (set_heap hh 1 (.pointer none)) 2 (.int .i64 0)
    have hK2 : Keeps (fun b => b = hb) w w2 := ⟨e2, e3, e4, by rw [e1]; exact hK.size, fun b o hb' hn => by rw [e1]; exact hK.same b o hb' hn⟩
    have hst : Stays S w w2 := hK2.stays (fun b _ hs e => h.ns (e ▸ hs))
    refine ⟨⟨[], ⟨hst.cell h.s0 h.ss, h.ss, ⟨ov, none, 0, by rw [e1]; exact hW, hov.stays hst, rfl, rfl⟩, h.ns, h.ok, Rises.nil _, by simp⟩, fun _ h => (by cases h), rfl⟩, hK2⟩
  have mixed : Try.prog.follows .mixedOrders = true := by kernel_rfl
  clear h hh hov
  go_enter Try.func34, Try.ntmps34
  go_wp2_with fail
  refine hm.mono ?_
  clear hm
  rintro e w' ⟨rfl, hw'⟩
  subst hw'
  go_wp2_with fail
  go_region
  all_goals
    go_wp2_with fail
    go_end0
    refine ⟨⟨_, rfl⟩, unhide DONE _ ?_ rfl rfl rfl⟩
    first
    | rfl
    | (simp [World.setCell, World.drew])
end Go.Proofs.Ytmjlhmhkbfnccaa
