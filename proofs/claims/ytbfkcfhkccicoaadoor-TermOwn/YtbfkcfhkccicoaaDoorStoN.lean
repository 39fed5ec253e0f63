/- Walks of a store: New, made, Len, find. -/
import Derived.Test.YtbfkcfhkccicoaaDoorStoM
namespace Go.Proofs.YtbfkcfhkccicoaaDoor
open Go.RowKit Go.Maps Go.WideMaps

theorem tab_base {W : World} {base base' tb hb mb : Nat} {a : Option Addr} {cap : Nat} {xs : List ByteArray} (h : Sym.Tab W base tb hb mb a cap xs) (hb' : base' ≤ base) : Sym.Tab W base' tb hb mb a cap xs := by
  refine ⟨h.tab, h.held, ⟨h.row.1, ?_⟩, h.len, h.map, by have := h.from_; omega⟩
  rcases h.row.2 with e | ⟨g, c, cur, e1, hb, r⟩
  · exact .inl e
  · exact .inr ⟨g, c, cur, e1, by omega, r⟩

def S0 : SS := ⟨[], [], []⟩

set_option maxHeartbeats 1000000 in
theorem storeNew_any (w : World) : Calls Tryd.prog 4 #[] w fun e w' => ∃ p : SP, e = .returned (.pointer (some ⟨p.sb, 0, none⟩)) ∧ p.base = w.heap.size ∧ Sto w' p S0 ∧ Below w.heap.size w w' := by
  have hmm := @run_makeMap Tryd.prog
  go_enter Tryd.func4, Tryd.ntmps4
  go_wp2_with fail
  refine (Sym.new_any w).mono ?_
  rintro e w1 ⟨rfl, T1, b1⟩
  have HT1 := hide T1
  clear T1
  go_wp2_with fail
  refine (Sym.new_any w1).mono ?_
  rintro e w2 ⟨rfl, T2, b2⟩
  have HT2 := hide T2
  clear T2
  go_wp2_with fail
  go_ret
  have hs1 := b1.size
  have hs2 := b2.size
  have l1 := Sym.lt_of_heap (unhide HT1).tab
  have l2 := Sym.lt_of_heap (unhide HT2).tab
  generalize hh : Obj.cells #[.pointer (some ⟨w.heap.size + 1 + 1, 0, none⟩), .pointer (some ⟨w1.heap.size + 1 + 1, 0, none⟩), .slice none 0 0, .map (some w2.heap.size)] 52 = oh
  generalize hst : Obj.cells #[.pointer (some ⟨w2.heap.size + 1, 0, none⟩)] 54 = os
  have b3 : Below w2.heap.size w2 (((w2.alloc (.map #[] 0)).alloc oh).alloc os) := (((Below.refl _ w2).alloc (Nat.le_refl _) _).alloc (by simp) _).alloc (by simp; omega) _
  have e2 : ((w2.alloc (.map #[] 0)).alloc oh).heap.size = w2.heap.size + 1 + 1 := by simp
  have e1 : (w2.alloc (.map #[] 0)).heap.size = w2.heap.size + 1 := by simp
  have hsb := World.alloc_heap_new ((w2.alloc (.map #[] 0)).alloc oh) os
  rw [e2] at hsb
  have hhb : (((w2.alloc (.map #[] 0)).alloc oh).alloc os).heap[w2.heap.size + 1]? = some oh := by
    have := World.alloc_heap_new (w2.alloc (.map #[] 0)) oh
    rw [e1] at this
    exact (Below.heap_alloc _ _ _ (by simp)).trans this
  have hm := World.ownsMap_made w2 Tryd.prog 81 (plainElem (H := Unit) Tryd.prog 3)
  refine ⟨⟨w.heap.size, w2.heap.size + 1 + 1, w2.heap.size + 1, w2.heap.size, w.heap.size + 1 + 1, w.heap.size + 1, w.heap.size, w1.heap.size + 1 + 1, w1.heap.size + 1, w1.heap.size, none, none, none, 0, 0, 0⟩, rfl, rfl, ?_, b1.trans ((b2.trans (b3.mono hs2)).mono hs1)⟩
  have mine_none : ∀ h m k, Sym.mine h m none k → k = h ∨ k = m := fun h m k e => by
    rcases e with e | e | e
    · exact .inl e
    · exact .inr e
    · simp at e
  refine ⟨by rw [← hst] at hsb; rw [← hst]; exact hsb, by rw [← hh]; rw [← hh] at hhb; exact hhb, (unhide HT1).later (b2.trans (b3.mono hs2)), tab_base ((unhide HT2).later b3) hs1, World.ownsRow_nil _ _ _ _,
    ⟨_, (hm.alloc _).alloc _, nties_empty⟩, by simp [S0], ?_, ?_, ?_, ?_⟩
  · rintro k (e | e) (e3 | e3)
    · simp only at e e3; omega
    · have := mine_none _ _ _ e3; simp only at e this; omega
    · have := mine_none _ _ _ e; simp only at e3 this; omega
    · have h1 := mine_none _ _ _ e
      have h2 := mine_none _ _ _ e3
      simp only at h1 h2; omega
  · rintro (e | e)
    · simp only at e; omega
    · have := mine_none _ _ _ e; simp only at this; omega
  · rintro (e | e)
    · simp only at e; omega
    · have := mine_none _ _ _ e; simp only at this; omega
  · refine ⟨?_, ?_, ?_, ?_, ?_⟩ <;> simp only <;> omega

section
variable {W : World} {p : SP} {S : SS}
theorem Sto.c0 (h : Sto W p S) : W.cell? ⟨p.sb, 0, none⟩ = some (.pointer (some ⟨p.hb, 0, none⟩)) := by simp [World.cell?, h.st]
theorem Sto.d0 (h : Sto W p S) : W.cell? ⟨p.hb, 0, none⟩ = some (.pointer (some ⟨p.t1, 0, none⟩)) := by simp [World.cell?, h.held]
theorem Sto.d1 (h : Sto W p S) : W.cell? ⟨p.hb, 1, none⟩ = some (.pointer (some ⟨p.t2, 0, none⟩)) := by simp [World.cell?, h.held]
theorem Sto.d2 (h : Sto W p S) : W.cell? ⟨p.hb, 2, none⟩ = some (.slice p.na S.ns.length p.nc) := by simp [World.cell?, h.held]
theorem Sto.d3 (h : Sto W p S) : W.cell? ⟨p.hb, 3, none⟩ = some (.map (some p.mb)) := by simp [World.cell?, h.held]
theorem Sto.f2 (h : Sto W p S) : W.frozen? ⟨p.hb, 2, none⟩ = false := by simp [World.frozen?, h.held]

theorem smade_any (h : Sto W p S) : Calls Tryd.prog 21 #[.pointer (some ⟨p.sb, 0, none⟩)] W fun e w' => e = .returned (.bool true) ∧ w' = W := by
  have c0 := h.c0
  go_enter Tryd.func21, Tryd.ntmps21
  go_wp2_with fail
  go_ret
  exact ⟨rfl, rfl⟩

theorem slen_any (h : Sto W p S) : Calls Tryd.prog 11 #[.pointer (some ⟨p.sb, 0, none⟩)] W fun e w' => e = .returned (.int .i64 (S.ns.length : Int)) ∧ w' = W := by
  have c0 := h.c0
  have d2 := h.d2
  go_enter Tryd.func11, Tryd.ntmps11
  go_wp2_with (go_at_call 21; refine (smade_any h).mono ?_; rintro e w' ⟨rfl, rfl⟩)
  go_ret
  exact ⟨rfl, rfl⟩
end

end Go.Proofs.YtbfkcfhkccicoaaDoor
