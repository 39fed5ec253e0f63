/- Store.Back, of a value that was put. -/
import Derived.Test.YtpiehfjgokfdeaaDoorBackT
namespace Go.Proofs.YtpiehfjgokfdeaaDoor
open Go.RowKit Go.Maps Go.Deep

theorem back_all : ∀ v : V, BackC v := back_any fun v ih hk => backCon_any v ih hk

set_option maxRecDepth 100000 in
set_option maxHeartbeats 4000000 in
theorem sback_any (v : V) (W : World) (p : SP) (S : SS) (d : Nat) (m : Int) (h : Sto W p S) (h18 : ∀ l ∈ S.ns, l.length = 18) (hm : v.may d = true) (hs : v.Small) (hin : v.IsIn S m) :
    Calls Tryd.prog 23 #[.pointer (some ⟨p.sb, 0, none⟩), .int .i64 v.kind, .int .i64 m] W fun e w' => ∃ r, e = .returned (.tuple #[r, .bool true]) ∧ Got W w' v r ∧ Below W.heap.size W w' := by
  have b1 := below_box W (.cells #[.int .i64 0, .int .i64 0, .string ⟨#[]⟩, .slice none 0 0] 24)
  have h1 := h.later b1
  have HC := hide (back_all v _ p S d m h1 h18 hm hs hin)
  have HM := hide (smade_any h1)
  have c0 := h1.c0
  clear h h1 hin hs hm h18
  go_enter Tryd.func23, Tryd.ntmps23
  go_wp2_with fail
  refine (unhide HM).mono ?_
  rintro e w' ⟨rfl, rfl⟩
  go_wp2_with fail
  refine (unhide HC).mono ?_
  rintro e w2 ⟨r, rfl, ⟨u, rfl, hu, hlike, hfar⟩, b2⟩
  have hbx : CellsAt w2 W.heap.size 0 V.none := (boxed W V.none).below b2 (by simp)
  have hob : w2.heap[W.heap.size]? = some V.none.obj := (b2.block W.heap.size (by simp)).trans (World.alloc_heap_new W _)
  have f0 : ∀ o, w2.frozen? ⟨W.heap.size, o, none⟩ = false := fun o => by simp [World.frozen?, hob, V.obj]
  have x0 := hbx.z.1
  have x1 := hbx.z.2.1
  have x2 := hbx.z.2.2.1
  have x3 := hbx.z.2.2.2
  have bw : Below W.heap.size W w2 := b1.trans (b2.mono (by simp))
  have HG : Hid (∀ q0 q1 q2 q3, Got W ((((w2.setCell ⟨W.heap.size, 0, none⟩ q0).setCell ⟨W.heap.size, 1, none⟩ q1).setCell ⟨W.heap.size, 2, none⟩ q2).setCell ⟨W.heap.size, 3, none⟩ q3) v u.val) := fun q0 q1 q2 q3 => by
    refine ⟨u, rfl, ?_, hlike, fun k hk => ?_⟩
    · have t : Turn (· = W.heap.size) w2 ((((w2.setCell ⟨W.heap.size, 0, none⟩ q0).setCell ⟨W.heap.size, 1, none⟩ q1).setCell ⟨W.heap.size, 2, none⟩ q2).setCell ⟨W.heap.size, 3, none⟩ q3) := turn_four _ _ _ _ _ _
      have := V.At.turn' t u hu (fun k hk e => by have := hfar k hk; simp at this; omega)
      exact this.more t.size _
    · have := hfar k hk
      simp at this
      omega
  clear HC HM b1 b2 hbx hu hlike hfar c0
  go_wp2_with fail
  refine bodyPost_ret (v := .tuple #[u.val, .bool true]) (by simp [results, Tryd.results23, go_sem, x0, x1, x2, x3, V.val]) rfl ?_
  exact ⟨_, rfl, unhide HG _ _ _ _, (((bw.setCell (Nat.le_refl _) _).setCell (Nat.le_refl _) _).setCell (Nat.le_refl _) _).setCell (Nat.le_refl _) _⟩

set_option maxRecDepth 100000 in
/-- A slice of values that came in. -/
theorem vals_of {H : Type} {enc : TypeId × Value → H} {w : World} {base : Nat} {spare : Nat → Bool} {held : Bool} {fuel : Nat} {cs : List Value} {x : DataW H × List MemPlace} (h : DataW.trod enc Tryd.prog w base spare held fuel 22 cs = some x) :
    ∃ L : V, cs = [.slice L.addr L.len L.cap] ∧ L.At w.heap.size w ∧ L.len ≤ L.cap ∧ L.cap ≤ 9223372036854775807 := by
  have hc : Tryd.prog.cellsOf 24 = 4 := by kernel_rfl
  rcases DataW.trod_slice Tryd.underlying22 h with ⟨e3, _⟩ | ⟨a, len, cap, elems, rest, m, hm, e3, _, hb, hle, hmx, hlen, hel, _, _⟩
  · exact ⟨.mk 0 0 ⟨#[]⟩ .none 0 0 (fun _ => .none), e3, bare_at (by omega) (by omega) (by decide), Nat.le_refl _, Nat.zero_le _⟩
  · unfold maxLen at hmx
    have hspot : 0 < len → a.spot = .none := fun h0 => by
      have hi2 := hel 0 h0
      rw [List.getElem?_eq_getElem (by omega)] at hi2
      obtain ⟨cs', h1, h2⟩ := Option.bind_eq_some_iff.1 hi2
      obtain ⟨v, rfl, _⟩ := open_val _ cs' _ h2
      rw [hc] at h1
      obtain ⟨_, _, hcell⟩ := World.cells?_some h1
      have d0 := hcell 0 (by omega)
      rw [add_add] at d0
      simp only [List.getElem?_cons_zero, Nat.zero_mul, Nat.add_zero] at d0
      simpa [Addr.add] using World.cell?_spot d0
    obtain ⟨kid, hkid⟩ := choose_lt (α := V) (n := len) (p := fun i v => v.At w.heap.size w ∧ ∃ b o, a = ⟨b, o, .none⟩ ∧ b < w.heap.size ∧ CellsAt w b (o + i * 4) v) (fun i hi => by
      have hi2 := hel i hi
      rw [List.getElem?_eq_getElem (by omega)] at hi2
      obtain ⟨cs', h1, h2⟩ := Option.bind_eq_some_iff.1 hi2
      obtain ⟨v, rfl, hv⟩ := open_val _ cs' _ h2
      rw [hc] at h1
      obtain ⟨_, _, hcell⟩ := World.cells?_some h1
      have d0 := hcell 0 (by omega)
      have d1 := hcell 1 (by omega)
      have d2 := hcell 2 (by omega)
      have d3 := hcell 3 (by omega)
      obtain ⟨b, o, spot⟩ := a
      rw [add_add] at d0 d1 d2 d3
      simp only [List.getElem?_cons_zero, List.getElem?_cons_succ, Nat.add_zero] at d0 d1 d2 d3
      have hadd : ∀ j, 0 < j → (Addr.add ⟨b, o, spot⟩ j) = ⟨b, o + j, .none⟩ := fun j hj => by
        simp [Addr.add]; omega
      rw [hadd _ (by omega)] at d1 d2 d3
      have hs : spot = .none := hspot (by omega)
      subst hs
      refine ⟨v, hv, b, o, rfl, by have := World.block_lt_of_cell? _ _ d1; exact this, ?_, by simpa [Nat.add_assoc] using d1, by simpa [Nat.add_assoc] using d2, by simpa [Nat.add_assoc] using d3⟩
      have e5 : (Addr.add ⟨b, o, .none⟩ (i * 4)) = ⟨b, o + i * 4, .none⟩ := by
        by_cases h0 : i * 4 = 0
        · simp [Addr.add, h0]
        · rw [hadd _ (by omega)]
      rw [e5] at d0
      exact d0)
    refine ⟨.mk 0 0 ⟨#[]⟩ (some a) len cap kid, e3, V.At.of ⟨(by show (-9223372036854775808 : Int) ≤ 0; decide), (by show (0 : Int) ≤ 9223372036854775807; decide), (by show (-9223372036854775808 : Int) ≤ 0; decide), (by show (0 : Int) ≤ 9223372036854775807; decide), (by show (0 : Nat) ≤ _; omega), by show len ≤ _; omega, fun i hi => ?_⟩ (fun i hi => (hkid i hi).1), hle, by show cap ≤ _; omega⟩
    obtain ⟨b, o, e6, hb6, hc6⟩ := (hkid i hi).2
    exact ⟨b, o, by rw [← e6]; rfl, hb6, hc6⟩
theorem vals_slice {H : Type} {enc : TypeId × Value → H} {w : World} {a : Option Addr} {len cap : Nat} {d : DataW H} {p : List MemPlace} (h : DataW.Trod enc Tryd.prog w 0 (fun _ => true) true 22 (.slice a len cap) d p) :
    ∃ L : V, a = L.addr ∧ len = L.len ∧ cap = L.cap ∧ L.At w.heap.size w ∧ L.len ≤ L.cap ∧ L.cap ≤ 9223372036854775807 := by
  obtain ⟨fuel, hf⟩ := h
  obtain ⟨L, hl, h1, h2, h3⟩ := vals_of hf
  simp only [Value.cells, List.cons.injEq, and_true, Value.slice.injEq] at hl
  exact ⟨L, hl.1, hl.2.1, hl.2.2, h1, h2, h3⟩
end Go.Proofs.YtpiehfjgokfdeaaDoor
