/- The document's Same of any two programs, places aside. Walk of the law on heads. -/
import Derived.Test.YtdjehbdpcdikkaaGreatDoorMg46
import Derived.Test.YtdjehbdpcdikkaaGreatDoorMg35
namespace Go.Proofs.YtdjehbdpcdikkaaGreatDoor
open Go.RowKit Go.Maps

set_option maxRecDepth 100000 in
/-- Two programs. -/
theorem rsamePg_any (p : Pg) : ∀ (q : Pg) (S : Nat → Prop) (w : World) (c0 c1 c2 c3 c4 d0 d1 d2 d3 d4 : Value), PgS S w [c0, c1, c2, c3, c4] p → PgS S w [d0, d1, d2, d3, d4] q →
    Calls Tryz.prog 10 #[.agg #[c0, c1, c2, c3, c4], .agg #[d0, d1, d2, d3, d4], .bool false] w fun en w' => en = .returned (.bool (eqPg p q)) ∧ Below w.heap.size w w' :=
  match p with
  | .mk ts ds cs is ls => fun q S w c0 c1 c2 c3 c4 d0 d1 d2 d3 d4 hx hy => by
    obtain ⟨v0, v1, v2, v3, v4, ex, h0, h1, h2, h3, h4⟩ := hx.cells
    obtain ⟨u0, u1, u2, u3, u4, ey, g0, g1, g2, g3, g4⟩ := hy.cells
    obtain ⟨rfl, rfl, rfl, rfl, rfl⟩ := list5 ex
    obtain ⟨rfl, rfl, rfl, rfl, rfl⟩ := list5 ey
    obtain ⟨_, _, rfl⟩ := h0.sl
    obtain ⟨_, _, rfl⟩ := h1.sl
    obtain ⟨_, _, rfl⟩ := h2.sl
    obtain ⟨_, _, rfl⟩ := h3.sl
    obtain ⟨_, _, rfl⟩ := h4.sl
    obtain ⟨_, _, rfl⟩ := g0.sl
    obtain ⟨_, _, rfl⟩ := g1.sl
    obtain ⟨_, _, rfl⟩ := g2.sl
    obtain ⟨_, _, rfl⟩ := g3.sl
    obtain ⟨_, _, rfl⟩ := g4.sl
    refine rSame_of h0 h1 h3 h4 g0 g1 g3 g4 (fun w' hb => ?_)
    refine (rcomps_of (h2.later pco_ok hb) (g2.later pco_ok hb) (fun j x1 y1 hx1 hy1 w1 e0 e1 e2 e3 e4 f0 f1 f2 f3 f4 _ a1 a2 => ?_)).mono (fun _ _ h => h)
    have hm : x1 ∈ cs := List.mem_of_getElem? hx1
    exact rsamePg_any x1.2.2.1 y1.2.2.1 S w1 e0 e1 e2 e3 e4 f0 f1 f2 f3 f4 a1 a2
termination_by SizeOf.sizeOf p
decreasing_by
  have h1 := List.sizeOf_lt_of_mem hm
  have h2 : SizeOf.sizeOf x1.2.2.1 < SizeOf.sizeOf x1 := by
    obtain ⟨a, b, c, d⟩ := x1
    simp only [Prod.mk.sizeOf_spec]
    omega
  simp only [Pg.mk.sizeOf_spec]
  omega
end Go.Proofs.YtdjehbdpcdikkaaGreatDoor

namespace Go.Proofs.YtdjehbdpcdikkaaGreatDoor
open Go.RowKit

theorem RowAt.take {w : World} {g cap : Nat} {toks : List Tok} (h : RowAt w g cap toks) (i : Nat) : RowAt w g cap (toks.take i) :=
  ⟨h.lt, by rw [List.length_take]; have := h.le; omega, h.cm, fun j t hj => h.cells j t (by
    rw [List.getElem?_take] at hj
    split at hj
    · exact hj
    · cases hj)⟩
theorem ris_len {n : Nat} : ∀ {l : List Tok} {k : Nat}, k ≤ n → Ris k n l → k + l.length ≤ n
  | [], k, hk, _ => by simpa using hk
  | t :: l, k, _, hr => by
    have := ris_len (l := l) (k := t.at_ + 1) (by have := hr.2.1; omega) hr.2.2
    have h1 := hr.1
    simp only [List.length_cons]; omega
theorem slice_of {w : World} {B : Nat} {v : Value} (h : w.ownsRow B 43 4 v 0 (tokCells [])) : ∃ ao cap, v = .slice ao 0 cap := by
  rcases h.2 with h | ⟨g, cap, cur, hv, _⟩
  · exact ⟨_, _, h.1⟩
  · exact ⟨_, _, hv⟩
/-- The index that the laws reckon. -/
theorem idx_of (a : Int) {n : Nat} (hn : 0 < n) : ∃ (b : Int) (i : Nat), a.tmod (n : Int) = b ∧ -(n : Int) < b ∧ b < (n : Int) ∧ (b + (n : Int)).tmod (n : Int) = (i : Int) ∧ i < n := by
  have h1 : (a.tmod (n : Int)).natAbs < n := by
    have := Int.natAbs_tmod a (n : Int)
    rw [this]
    exact Nat.mod_lt _ (by omega)
  refine ⟨a.tmod n, ((a.tmod n + n).tmod n).toNat, rfl, by omega, by omega, ?_, ?_⟩
  · have : 0 ≤ (a.tmod n + (n : Int)).tmod n := Int.tmod_nonneg _ (by omega)
    omega
  · have : (a.tmod n + (n : Int)).tmod n < n := Int.tmod_lt_of_pos _ (by omega)
    omega
theorem run_head (s : ByteArray) (k : Nat) (hk : k ≤ s.size) (w : World) :
    (Instr.slice 9 (.string s) none (some (.int .i64 (k : Int))) none).run Tryz.prog w = .ok (.string (s.extract 0 k)) w := by
  have := run_slice_string_h (P := Tryz.prog) w 9 s Tryz.underlying9 .i64 (k : Int) (by omega) (by omega)
  rwa [Int.toNat_natCast] at this
theorem ext_head (s : ByteArray) (k : Nat) : (s.extract 0 k).data.toList = s.data.toList.take k := by
  have := ext_piece s 0 k
  rwa [Nat.zero_add, List.drop_zero] at this

end Go.Proofs.YtdjehbdpcdikkaaGreatDoor
