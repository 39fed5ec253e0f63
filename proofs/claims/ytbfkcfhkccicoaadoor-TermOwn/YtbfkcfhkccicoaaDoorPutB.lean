/- Numbers that a store gives stand within 64 bits; the state between two Args. -/
import Derived.Test.YtbfkcfhkccicoaaDoorMPut
import Derived.Test.YtbfkcfhkccicoaaDoorRaw
namespace Go.Proofs.YtbfkcfhkccicoaaDoor
open Go.RowKit Go.Maps

def Bits (x : Int) : Prop := -9223372036854775808 ≤ x ∧ x ≤ 9223372036854775807
theorem nNum_le (ns : List (List Int)) (n : List Int) : nNum ns n ≤ ns.length := by
  unfold nNum
  split
  · rename_i h; exact Nat.le_of_lt (nIdx_at h).2
  · exact Nat.zero_le _
theorem putNodeV_bits {S : SS} {word : ByteArray} {n : Nd} (h : (putNodeV S word n).2.ns.length ≤ 16384) : Bits (putNodeV S word n).1.1 := by
  cases hf : (findV S word n).2 with
  | true =>
    rw [putNodeV_there hf] at h ⊢
    unfold findV
    split
    · have := nNum_le S.ns (n.at0 (Sym.num S.ws word)).list
      unfold Bits; simp only at h ⊢; omega
    · unfold Bits; simp
  | false =>
    by_cases hl : 16384 ≤ S.ns.length
    · rw [putNodeV_full hf hl]; unfold Bits; simp
    · rw [putNodeV_new hf (by omega)]; unfold Bits; simp only; omega
theorem ansN_put (xs : List ByteArray) (s : ByteArray) : Sym.ansN xs s ≤ (Sym.put xs s).length := Nat.le_trans (Sym.ansN_le xs s) (put_len_ge xs s)
theorem putV_bits {v : V} {B : Nat} {w : World} {S : SS} {d : Nat} (hat : v.At B w) (hm : v.may d = true) (hx : (v.putV S).2.xs.length ≤ 16384) (hn : (v.putV S).2.ns.length ≤ 16384) : Bits (v.putV S).1.1 := by
  rcases kinds_of hm with h | h | h
  · rw [V.putV_num h]; exact ⟨hat.flat.n0, hat.flat.n1⟩
  · rw [V.putV_sym h] at hx ⊢
    have := ansN_put S.xs v.str
    unfold Bits; simp only at hx ⊢; omega
  · rw [V.putV_con h] at hn ⊢
    split
    · rename_i he
      rw [if_pos he] at hn
      exact putNodeV_bits hn
    · unfold Bits; simp

theorem nodeAt_bits {v : V} {B : Nat} {w : World} {nums : Nat → Int} {k : Nat} (hat : v.At B w) (hk : k ≤ v.len) (hl : v.len ≤ 8) (hn : ∀ j, j < k → Bits (nums j)) : InBits (nodeAt v nums k).list := fun x hx => by
  simp only [Nd.list, List.mem_map, List.mem_range] at hx
  obtain ⟨j, hj, rfl⟩ := hx
  unfold nodeAt
  split
  · omega
  · split
    · omega
    · split
      · split
        · rename_i h
          have := (hat.kid (j - 2) (by omega)).flat
          exact ⟨this.k0, this.k1⟩
        · omega
      · split
        · rename_i h
          exact hn (j - 10) h
        · omega

/-- One more Arg. -/
theorem nodeAt_step (v : V) (nums : Nat → Int) (k : Nat) (x : Int) (hk : k < 8) :
    (fun j => if j = 10 + k then x else (fun j => if j = 2 + k then (v.kid k).kind else nodeAt v nums k j) j) = nodeAt v (fun j => if j = k then x else nums j) (k + 1) := by
  funext j
  unfold nodeAt
  by_cases h0 : j = 0
  · subst h0; rw [if_neg (by omega)]; simp; omega
  · by_cases h1 : j = 1
    · subst h1; rw [if_neg (by omega)]; simp; omega
    · by_cases h2 : j < 10
      · rw [if_neg (by omega), if_neg h0, if_neg h1, if_pos h2]
        by_cases h3 : j = 2 + k
        · subst h3
          simp only [if_true]
          rw [if_pos (by omega), show 2 + k - 2 = k by omega]
        · simp only [if_neg h3, if_neg h0, if_neg h1, if_pos h2]
          by_cases h4 : j - 2 < k
          · rw [if_pos h4, if_pos (by omega)]
          · rw [if_neg h4, if_neg (by omega)]
      · by_cases h3 : j = 10 + k
        · subst h3
          rw [if_pos rfl, if_neg h0, if_neg h1, if_neg h2, if_pos (by omega)]
          show x = if 10 + k - 10 = k then x else nums (10 + k - 10)
          rw [if_pos (by omega)]
        · rw [if_neg h3]
          simp only [if_neg (show ¬ j = 2 + k by omega), if_neg h0, if_neg h1, if_neg h2]
          by_cases h4 : j - 10 < k
          · rw [if_pos h4, if_pos (by omega)]
            show _ = if j - 10 = k then x else nums (j - 10)
            rw [if_neg (by omega)]
          · rw [if_neg h4, if_neg (by omega)]
end Go.Proofs.YtbfkcfhkccicoaaDoor
