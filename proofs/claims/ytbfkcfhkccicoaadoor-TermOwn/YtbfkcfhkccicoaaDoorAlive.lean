/- The probe that stands in each statement answers true. -/
import Derived.Test.YtbfkcfhkccicoaaDoorPutA
namespace Go.Proofs.YtbfkcfhkccicoaaDoor
open Go.RowKit Go.Maps Go.WideMaps

def leafV (s : ByteArray) : V := .mk 3 0 s none 0 0 (fun _ => .none)
def xV : V := .mk 2 0 ⟨#[120, 34]⟩ none 0 0 (fun _ => .none)
def bV (g : Nat) : V := .mk 3 0 ⟨#[66]⟩ (some ⟨g, 0, none⟩) 2 2 (fun i => if i = 0 then leafV ⟨#[65]⟩ else xV)

theorem leaf_at (s : ByteArray) (hs : s.size ≤ 64) (B : Nat) (w : World) : (leafV s).At B w :=
  V.At.of ⟨by simp [leafV, V.kind], by simp [leafV, V.kind], by simp [leafV, V.num], by simp [leafV, V.num], by simp only [leafV, V.str]; omega, by simp [leafV, V.len], fun i hi => absurd hi (Nat.not_lt_zero i)⟩ (fun i hi => absurd hi (Nat.not_lt_zero i))
theorem x_at (B : Nat) (w : World) : xV.At B w :=
  V.At.of ⟨by simp [xV, V.kind], by simp [xV, V.kind], by simp [xV, V.num], by simp [xV, V.num], by decide, by simp [xV, V.len], fun i hi => absurd hi (Nat.not_lt_zero i)⟩ (fun i hi => absurd hi (Nat.not_lt_zero i))
theorem leaf_uses (s : ByteArray) (k : Nat) : ¬ (leafV s).uses k := fun h => by
  rcases (V.uses_eq _ _).1 h with ⟨h1, _⟩ | ⟨i, hi, _⟩
  · exact absurd h1 (Nat.lt_irrefl 0)
  · exact absurd hi (Nat.not_lt_zero i)
theorem x_uses (k : Nat) : ¬ xV.uses k := fun h => by
  rcases (V.uses_eq _ _).1 h with ⟨h1, _⟩ | ⟨i, hi, _⟩
  · exact absurd h1 (Nat.lt_irrefl 0)
  · exact absurd hi (Nat.not_lt_zero i)
theorem b_uses (g k : Nat) (h : (bV g).uses k) : k = g := by
  rcases (V.uses_eq _ _).1 h with ⟨_, h2⟩ | ⟨i, _, h2⟩
  · simp [bV, V.addr] at h2; exact h2.symm
  · have : (bV g).kid i = leafV ⟨#[65]⟩ ∨ (bV g).kid i = xV := by
      show (if i = 0 then _ else _) = _ ∨ (if i = 0 then _ else _) = _
      split
      · exact .inl rfl
      · exact .inr rfl
    rcases this with e | e
    · rw [e] at h2; exact absurd h2 (leaf_uses _ _)
    · rw [e] at h2; exact absurd h2 (x_uses _)
/-- The block of b's Args. -/
abbrev bObj : Obj := .cells #[.int .i64 3, .int .i64 0, .string ⟨#[65]⟩, .slice none 0 0, .int .i64 2, .int .i64 0, .string ⟨#[120, 34]⟩, .slice none 0 0] 32
theorem b_at {w : World} {g : Nat} (h : w.heap[g]? = some bObj) : (bV g).At (g + 1) w := by
  refine V.At.of ⟨by simp [bV, V.kind], by simp [bV, V.kind], by simp [bV, V.num], by simp [bV, V.num], show (⟨#[66]⟩ : ByteArray).size ≤ 9223372036854775807 by decide, by simp [bV, V.len], fun i hi => ?_⟩ (fun i hi => ?_)
  · have hi2 : i < 2 := hi
    refine ⟨g, 0, rfl, by omega, ?_⟩
    match i, hi2 with
    | 0, _ => exact ⟨by simp only [World.cell?]; rw [h]; rfl, by simp only [World.cell?]; rw [h]; rfl, by simp only [World.cell?]; rw [h]; rfl, by simp only [World.cell?]; rw [h]; rfl⟩
    | 1, _ => exact ⟨by simp only [World.cell?]; rw [h]; rfl, by simp only [World.cell?]; rw [h]; rfl, by simp only [World.cell?]; rw [h]; rfl, by simp only [World.cell?]; rw [h]; rfl⟩
  · show (if i = 0 then leafV ⟨#[65]⟩ else xV).At _ _
    split
    · exact leaf_at _ (by decide) _ _
    · exact x_at _ _

theorem b_right (g : Nat) : (bV g).right = true := by rfl
theorem a_right : (leafV ⟨#[65]⟩).right = true := by rfl
theorem b_text (g : Nat) : textAll (bV g) = [36, 66, 40, 36, 65, 40, 41, 44, 32, 34, 120, 92, 34, 34, 41] := by rfl
theorem ab_ord (g : Nat) : ordAll (leafV ⟨#[65]⟩) (bV g) = -1 := by
  unfold ordAll
  rw [a_right, b_right]
  simp only [Bool.and_self, if_true]
  rw [V.ord_eq, four_val]
  have e1 : cmpS (leafV ⟨#[65]⟩).str (bV g).str = -1 := by
    show cmpS ⟨#[65]⟩ ⟨#[66]⟩ = -1
    unfold cmpS
    rw [Lib.toList_data, Lib.toList_data]; rfl
  have e2 : cmpI (leafV ⟨#[65]⟩).kind (bV g).kind = 0 := rfl
  have e3 : cmpI (leafV ⟨#[65]⟩).num (bV g).num = 0 := rfl
  rw [e1, e2, e3]; rfl

/-- What the store knows behind the first put, and behind the second. -/
def S1 (g : Nat) : SS := (putAll (bV g) S0).2
theorem put_b (g : Nat) : (putAll (bV g) S0).1 = (1, 0) := by
  rfl
theorem put_a (g : Nat) : (putAll (leafV ⟨#[65]⟩) (S1 g)).1 = (0, 0) ∧ (putAll (leafV ⟨#[65]⟩) (S1 g)).2.ns.length = 2 := ⟨rfl, rfl⟩
theorem s0_ok : S0.Ok := ⟨Nat.le_refl _, fun l hl => by cases hl⟩

theorem leaf_any (s : ByteArray) (w : World) : Calls Tryd.prog 16 #[.string s] w fun e w' => e = .returned (leafV s).val ∧ Below w.heap.size w w' := by
  go_enter Tryd.func16, Tryd.ntmps16
  go_wp2_with fail
  refine bodyPost_ret (v := .agg #[.int .i64 3, .int .i64 0, .string s, .slice none 0 0]) (by simp [results, Tryd.results16, go_sem]) rfl ?_
  exact ⟨rfl, below_box w _⟩
end Go.Proofs.YtbfkcfhkccicoaaDoor
