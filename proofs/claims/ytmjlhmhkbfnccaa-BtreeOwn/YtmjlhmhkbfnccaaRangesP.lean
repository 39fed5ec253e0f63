/- The tuples of a head are the first of those that are not below the least of them. -/
import Derived.Test.YtmjlhmhkbfnccaaFolds
import Derived.Test.YtmjlhmhkbfnccaaFroms
namespace Go.Proofs.Ytmjlhmhkbfnccaa
open Go.RowKit

theorem tw_stop {p : List Int → Bool} : ∀ L : List (List Int), (L.takeWhile p).length < L.length → p (L.getD (L.takeWhile p).length []) = false
  | [], h => by simp at h
  | a :: r, h => by
    by_cases ha : p a = true
    · rw [List.takeWhile_cons_of_pos ha] at h ⊢
      have := tw_stop r (by simpa using h)
      simpa using this
    · rw [List.takeWhile_cons_of_neg ha]
      simpa using ha
theorem head_iff {o x y : List Int} {k : Int} (ho : right o = true) (hx : x.length = o.length) (hy : y.length = o.length) : headA o k y x = true ↔ (turn o y).take k.toNat = (turn o x).take k.toNat := by
  rw [headA, fitN_mk2 hy hx ho]
  simp
theorem tw_filter2 {o x y : List Int} {k : Int} (ho : right o = true) (hx : x.length = o.length) (hy : y.length = o.length) (hh : headA o k y x = true) : ∀ L : List (List Int), L.Pairwise (fun a b => cmpA o a b < 0) → (∀ a ∈ L, a.length = o.length) → (∀ a ∈ L, 0 ≤ cmpA o a y) → L.takeWhile (fun z => headA o k z x) = L.filter (fun z => headA o k z x)
  | [], _, _, _ => rfl
  | a :: r, hR, hw, hg => by
    have hr := List.pairwise_cons.1 hR
    by_cases ha : headA o k a x = true
    · rw [List.takeWhile_cons_of_pos (by simpa using ha), List.filter_cons_of_pos (by simpa using ha), tw_filter2 ho hx hy hh r hr.2 (fun z hz => hw z (by simp [hz])) (fun z hz => hg z (by simp [hz]))]
    · rw [List.takeWhile_cons_of_neg (by simpa using ha), List.filter_cons_of_neg (by simpa using ha)]
      symm
      rw [List.filter_eq_nil_iff]
      intro b hb hbh
      apply ha
      have la := hw a (by simp)
      have lb := hw b (by simp [hb])
      have h1 := hg a (by simp)
      have h2 := hr.1 b hb
      rw [cmpA_all ho la hy] at h1
      rw [cmpA_all ho la lb] at h2
      have h3 := lex_neg (turn o a) (turn o y)
      have e1 := (head_iff ho hx hy).1 hh
      have e2 := (head_iff ho hx lb).1 hbh
      have := lex_head k.toNat (turn o y) (turn o a) (turn o b) (by simp [turn_length]) (by simp [turn_length]) (by omega) (by omega) (e1.trans e2.symm)
      rw [head_iff ho hx la, ← this, e1]
theorem ranges_pure {o x : List Int} {k : Int} {A : List (List Int)} (ho : right o = true) (hA : Up o A) (hx : x ∈ A) {r : List (List Int)} (hr : r = A.filter (fun z => headA o k z x)) {y : List Int} (hy : y = r.getD 0 []) {ff : List (List Int)} (hf : ff = fromL o y A) :
    0 < r.length ∧ y.length = o.length ∧ r.length ≤ ff.length ∧ ff.take r.length = r ∧ (r.length < ff.length → headA o k (ff.getD r.length []) x = false) := by
  have hxl := hA.2.1 x hx
  have hxr : x ∈ r := by
    rw [hr, List.mem_filter]
    exact ⟨hx, (head_iff ho hxl hxl).2 rfl⟩
  have h0 : 0 < r.length := List.length_pos_of_mem hxr
  have hyr : y ∈ r := by
    rw [hy, List.getD, List.getElem?_eq_getElem h0]
    exact List.getElem_mem h0
  have hyA := List.mem_filter.1 (hr ▸ hyr)
  have hyl := hA.2.1 y hyA.1
  have hrp : r.Pairwise (fun a b => cmpA o a b < 0) := by rw [hr]; exact hA.1.filter _
  have hrA : ∀ z ∈ r, z ∈ A := fun z hz => (List.mem_filter.1 (by rw [← hr]; exact hz)).1
  have hge : ∀ z ∈ r, 0 ≤ cmpA o z y := fun z hz => by
    obtain ⟨i, hi, rfl⟩ := List.getElem_of_mem hz
    have hye : y = r[0] := by rw [hy, List.getD, List.getElem?_eq_getElem h0]; rfl
    have hzl := hA.2.1 _ (hrA _ hz)
    by_cases h : i = 0
    · subst h
      rw [← hye, cmpA_self o y ho hyl]
      omega
    · have := List.pairwise_iff_getElem.1 hrp 0 i h0 hi (by omega)
      rw [← hye] at this
      have := cmpA_neg ho hyl hzl
      omega
  have hff : ff = A.filter (fun z => decide (0 ≤ cmpA o z y)) := by rw [hf, fromL, if_pos (fitB_true.2 hyl)]
  have hgz : ∀ z ∈ ff, 0 ≤ cmpA o z y := fun z hz => by
    rw [hff] at hz
    have h := (List.mem_filter.1 hz).2
    exact of_decide_eq_true h
  have htw : ff.takeWhile (fun z => headA o k z x) = r := by
    rw [tw_filter2 ho hxl hyl hyA.2 ff (by rw [hff]; exact hA.1.filter _) (fun z hz => hA.2.1 z (List.mem_filter.1 (hff ▸ hz)).1) (fun z hz => hgz z hz), hff, List.filter_filter, hr]
    refine List.filter_congr (fun z hz => ?_)
    by_cases hh : headA o k z x = true
    · have := hge z (by rw [hr, List.mem_filter]; exact ⟨hz, hh⟩)
      simp [hh, this]
    · simp [hh]
  have hpre : r <+: ff := by rw [← htw]; exact List.takeWhile_prefix _
  refine ⟨h0, hyl, hpre.length_le, (List.prefix_iff_eq_take.1 hpre).symm, fun h => ?_⟩
  have := tw_stop (p := fun z => headA o k z x) ff (by rw [htw]; exact h)
  rw [htw] at this
  exact this
theorem filter_none {o : List Int} {A : List (List Int)} (ho : right o = true) (hA : Up o A) : A.filter (fun y => headA o 0 y (List.replicate o.length 0)) = A := by
  rw [List.filter_eq_self]
  exact fun y hy => head_none ho (by simp) (hA.2.1 y hy)
end Go.Proofs.Ytmjlhmhkbfnccaa
