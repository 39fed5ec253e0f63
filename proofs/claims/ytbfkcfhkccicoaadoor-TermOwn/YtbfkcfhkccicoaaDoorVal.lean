/- Values in memory: a value with the addresses of its Args, and what it is for it to lie in a world. -/
import Derived.Test.YtbfkcfhkccicoaaDoorChecked

import Derived.RangeFuncBox
import Derived.Deep.Slices
import Derived.WalkKit
namespace Go.Proofs.YtbfkcfhkccicoaaDoor
open Go.RowKit Go.Deep

theorem hide {p : Prop} (h : p) : Hid p := h
theorem unhide {p : Prop} (h : Hid p) : p := h.out

/-- A value: its fields, and its Args by their index. 'none' is the zero value. -/
inductive V where
  | none
  | mk (k n : Int) (s : ByteArray) (a : Option Addr) (len cap : Nat) (kid : Nat → V)

namespace V
def kind : V → Int | none => 0 | mk k _ _ _ _ _ _ => k
def num : V → Int | none => 0 | mk _ n _ _ _ _ _ => n
def str : V → ByteArray | none => ⟨#[]⟩ | mk _ _ s _ _ _ _ => s
def addr : V → Option Addr | none => Option.none | mk _ _ _ a _ _ _ => a
def len : V → Nat | none => 0 | mk _ _ _ _ l _ _ => l
def cap : V → Nat | none => 0 | mk _ _ _ _ _ c _ => c
def kid : V → Nat → V | none, _ => none | mk _ _ _ _ _ _ f, i => f i
instance : Inhabited V := ⟨none⟩

theorem ind {p : V → Prop} (h : ∀ v : V, (∀ i, i < v.len → p (v.kid i)) → p v) : ∀ v, p v
  | none => h none (fun i hi => absurd hi (Nat.not_lt_zero i))
  | mk k n s a l c f => h (mk k n s a l c f) (fun i _ => ind h (f i))
end V

/-- The value as Go has it. -/
abbrev V.val (v : V) : Value := .agg #[.int .i64 v.kind, .int .i64 v.num, .string v.str, .slice v.addr v.len v.cap]

/-- The four cells of a value at a place of a block. -/
structure CellsAt (w : World) (b o : Nat) (v : V) : Prop where
  c0 : w.cell? ⟨b, o, .none⟩ = some (.int .i64 v.kind)
  c1 : w.cell? ⟨b, o + 1, .none⟩ = some (.int .i64 v.num)
  c2 : w.cell? ⟨b, o + 2, .none⟩ = some (.string v.str)
  c3 : w.cell? ⟨b, o + 3, .none⟩ = some (.slice v.addr v.len v.cap)

/-- One value's own row, its Args not gone into: numbers that are numbers, lengths that are lengths, the Args' cells in blocks below B. -/
structure Flat (B : Nat) (w : World) (v : V) : Prop where
  k0 : -9223372036854775808 ≤ v.kind
  k1 : v.kind ≤ 9223372036854775807
  n0 : -9223372036854775808 ≤ v.num
  n1 : v.num ≤ 9223372036854775807
  s : v.str.size ≤ 9223372036854775807
  l : v.len ≤ 9223372036854775807
  at_ : ∀ i, i < v.len → ∃ b o, v.addr = some ⟨b, o, .none⟩ ∧ b < B ∧ CellsAt w b (o + i * 4) (v.kid i)

def V.At (B : Nat) (w : World) : V → Prop
  | .none => True
  | .mk k n s a l c f => Flat B w (.mk k n s a l c f) ∧ ∀ i, i < l → (f i).At B w

theorem V.At.flat {B : Nat} {w : World} : ∀ {v : V}, v.At B w → Flat B w v
  | .none, _ => ⟨by decide, by decide, by decide, by decide, by decide, by decide, fun i hi => absurd hi (Nat.not_lt_zero i)⟩
  | .mk _ _ _ _ _ _ _, h => h.1
theorem V.At.kid {B : Nat} {w : World} : ∀ {v : V}, v.At B w → ∀ i, i < v.len → (v.kid i).At B w
  | .none, _, i, hi => absurd hi (Nat.not_lt_zero i)
  | .mk _ _ _ _ _ _ _, h, i, hi => h.2 i hi
theorem V.At.of {B : Nat} {w : World} : ∀ {v : V}, Flat B w v → (∀ i, i < v.len → (v.kid i).At B w) → v.At B w
  | .none, _, _ => trivial
  | .mk _ _ _ _ _ _ _, h, k => ⟨h, k⟩

/-- From w to w' no cell below B has turned. -/
theorem CellsAt.stays {w w' : World} {b o : Nat} {v : V} (hc : ∀ (p : Addr) (u : Value), p.block = b → w.cell? p = some u → w'.cell? p = some u) (h : CellsAt w b o v) : CellsAt w' b o v :=
  ⟨hc _ _ rfl h.c0, hc _ _ rfl h.c1, hc _ _ rfl h.c2, hc _ _ rfl h.c3⟩
theorem V.At.stays {B : Nat} {w w' : World} (hc : ∀ (p : Addr) (u : Value), p.block < B → w.cell? p = some u → w'.cell? p = some u) : ∀ v : V, v.At B w → v.At B w' := by
  refine V.ind fun v ih h => ?_
  have hf := h.flat
  refine V.At.of ⟨hf.k0, hf.k1, hf.n0, hf.n1, hf.s, hf.l, fun i hi => ?_⟩ (fun i hi => ih i hi (h.kid i hi))
  obtain ⟨b, o, e, hb, hcell⟩ := hf.at_ i hi
  exact ⟨b, o, e, hb, hcell.stays fun p u hp => hc p u (by omega)⟩
theorem V.At.more {B B' : Nat} {w : World} (hB : B ≤ B') : ∀ v : V, v.At B w → v.At B' w := by
  refine V.ind fun v ih h => ?_
  have hf := h.flat
  refine V.At.of ⟨hf.k0, hf.k1, hf.n0, hf.n1, hf.s, hf.l, fun i hi => ?_⟩ (fun i hi => ih i hi (h.kid i hi))
  obtain ⟨b, o, e, hb, hcell⟩ := hf.at_ i hi
  exact ⟨b, o, e, by omega, hcell⟩
theorem V.At.below {B : Nat} {w w' : World} {v : V} (h : v.At B w) (b : Below B w w') : v.At B w' :=
  h.stays (fun p u hp hu => (by simp only [World.cell?]; rw [b.block _ hp] : w'.cell? p = w.cell? p).trans hu) v

section
variable {H : Type} {enc : TypeId × Value → H} {w : World} {base : Nat} {spare : Nat → Bool} {held : Bool}

theorem wf64 {n : Int} (h : (Lit.int .i64 n).wf = true) : -9223372036854775808 ≤ n ∧ n ≤ 9223372036854775807 := by
  simp [Lit.wf, IntKind.min, IntKind.max, IntKind.bits, IntKind.signed] at h
  omega

set_option maxRecDepth 100000 in
/-- What reads as a value is one that lies in the world. -/
theorem open_val : ∀ (fuel : Nat) (cs : List Value) (x : DataW H × List MemPlace), DataW.trod enc Tryd.prog w base spare held fuel 32 cs = some x →
    ∃ v : V, cs = [.int .i64 v.kind, .int .i64 v.num, .string v.str, .slice v.addr v.len v.cap] ∧ v.At w.heap.size w := by
  intro fuel
  induction fuel using Nat.strongRecOn with
  | _ fuel ih =>
    intro cs x h
    obtain ⟨xs, n, hn, _, hl, hlen, hf⟩ := DataW.trod_struct Tryd.underlying32 h
    have hc : Tryd.prog.cellsOf 32 = 4 := by kernel_rfl
    have hc3 : Tryd.prog.cellsOf 3 = 1 := by kernel_rfl
    have hc9 : Tryd.prog.cellsOf 9 = 1 := by kernel_rfl
    have hcs : Tryd.prog.cellsOf 22 = 1 := by kernel_rfl
    rw [hc] at hl
    match cs, hl, xs, hlen with
    | [v0, v1, v2, v3], _, [y0, y1, y2, y3], _ =>
      have g0 := hf 0 _ rfl
      have g1 := hf 1 _ rfl
      have g2 := hf 2 _ rfl
      have g3 := hf 3 _ rfl
      simp [hc3, hc9, hcs] at g0 g1 g2 g3
      obtain ⟨k, e0, _, wk⟩ := DataW.trod_int Tryd.underlying3 g0
      obtain ⟨nn, e1, _, wn⟩ := DataW.trod_int Tryd.underlying3 g1
      obtain ⟨s, e2, _, ws⟩ := DataW.trod_string Tryd.underlying9 g2
      injection e0 with e0 _
      injection e1 with e1 _
      injection e2 with e2 _
      subst e0 e1 e2
      have wk := wf64 wk
      have wn := wf64 wn
      unfold maxLen at ws
      rcases DataW.trod_slice Tryd.underlying22 g3 with ⟨e3, _⟩ | ⟨a, len, cap, elems, rest, m, hm, e3, _, hb, hle, hmx, hlen, hel, _, _⟩
      · injection e3 with e3 _
        subst e3
        exact ⟨.mk k nn s .none 0 0 (fun _ => .none), rfl, V.At.of ⟨wk.1, wk.2, wn.1, wn.2, by simpa [V.str] using ws, by simp [V.len], fun i hi => absurd hi (Nat.not_lt_zero i)⟩ (fun i hi => absurd hi (Nat.not_lt_zero i))⟩
      · injection e3 with e3 _
        subst e3
        unfold maxLen at hmx
        have hspot : 0 < len → a.spot = .none := fun h0 => by
          have hi2 := hel 0 h0
          rw [List.getElem?_eq_getElem (by omega)] at hi2
          obtain ⟨cs', h1, h2⟩ := Option.bind_eq_some_iff.1 hi2
          obtain ⟨v, rfl, _⟩ := ih m (by omega) cs' _ h2
          rw [hc] at h1
          obtain ⟨_, _, hcell⟩ := World.cells?_some h1
          have d0 := hcell 0 (by omega)
          rw [add_add] at d0
          simp only [List.getElem?_cons_zero, Nat.zero_mul, Nat.add_zero] at d0
          simpa [Addr.add] using World.cell?_spot d0
        obtain ⟨kid, hkid⟩ := choose_lt (α := V) (n := len) (p := fun i v => v.At w.heap.size w ∧ ∃ b o, a = ⟨b, o, .none⟩ ∧ b < w.heap.size ∧ CellsAt w b (o + i * 4) v) (fun i hi => by
          have hi2 := hel i hi
          rw [List.getElem?_eq_getElem (by omega)] at hi2
          obtain ⟨cs', h1, h2⟩ := Option.bind_eq_some_iff.1 hi2
          obtain ⟨v, rfl, hv⟩ := ih m (by omega) cs' _ h2
          rw [hc] at h1
          obtain ⟨_, _, hcell⟩ := World.cells?_some h1
          have d0 := hcell 0 (by omega)
          have d1 := hcell 1 (by omega)
          have d2 := hcell 2 (by omega)
          have d3 := hcell 3 (by omega)
          obtain ⟨b, o, spot⟩ := a
          rw [add_add] at d0 d1 d2 d3
          simp only [List.getElem?_cons_zero, List.getElem?_cons_succ, Nat.add_zero] at d0 d1 d2 d3
          have hadd : ∀ j, 0 < j → (Addr.add ⟨b, o, spot⟩ j) = ⟨b, o + j, .none⟩ := fun j hj => by
            simp [Addr.add]; omega
          rw [hadd _ (by omega)] at d1 d2 d3
          have hs : spot = .none := hspot (by omega)
          subst hs
          refine ⟨v, hv, b, o, rfl, by have := World.block_lt_of_cell? _ _ d1; exact this, ?_, by simpa [Nat.add_assoc] using d1, by simpa [Nat.add_assoc] using d2, by simpa [Nat.add_assoc] using d3⟩
          have e5 : (Addr.add ⟨b, o, .none⟩ (i * 4)) = ⟨b, o + i * 4, .none⟩ := by
            by_cases h0 : i * 4 = 0
            · simp [Addr.add, h0]
            · rw [hadd _ (by omega)]
          rw [e5] at d0
          exact d0)
        by_cases hl0 : len = 0
        · subst hl0
          exact ⟨.mk k nn s (some a) 0 cap (fun _ => .none), rfl, V.At.of ⟨wk.1, wk.2, wn.1, wn.2, by simpa [V.str] using ws, by simp [V.len], fun i hi => absurd hi (Nat.not_lt_zero i)⟩ (fun i hi => absurd hi (Nat.not_lt_zero i))⟩
        · refine ⟨.mk k nn s (some a) len cap kid, rfl, V.At.of ⟨wk.1, wk.2, wn.1, wn.2, by simpa [V.str] using ws, by simp [V.len]; omega, fun i hi => ?_⟩ (fun i hi => (hkid i hi).1)⟩
          obtain ⟨b, o, e6, hb6, hc6⟩ := (hkid i hi).2
          exact ⟨b, o, by rw [← e6]; rfl, hb6, hc6⟩
end
end Go.Proofs.YtbfkcfhkccicoaaDoor
