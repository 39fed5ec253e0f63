/- The document's Parse at every text: what it answers is the plain function of the text's bytes. -/
import Derived.Test.YtkmnboaimhcmiaaDoorParseRef
namespace Go.Proofs.YtkmnboaimhcmiaaDoor
open Go.ChangeShapes Go.WideShapes Go.ChangeAt Go.RowKit

theorem bytes_eta {s : ByteArray} {l : List UInt8} (h : s.data.toList = l) : s = ⟨l.toArray⟩ := by
  cases s with
  | mk d => subst h; rfl

theorem at_pair2 {f : FuncId} {args : Array Value} {w : World} {p : Int × Int} {x y : Int} (hp : p = (x, y))
    (h : Calls Tryd.prog f args w fun e w' => e = .returned (.tuple #[.int .i64 x, .int .i64 y]) ∧ w' = w) :
    Calls Tryd.prog f args w fun e w' => e = .returned (.tuple #[.int .i64 p.1, .int .i64 p.2]) ∧ w' = w := by
  subst hp; exact h

theorem extract_tail {s : ByteArray} {c : UInt8} {r : List UInt8} (h : s.data.toList = c :: r) : (s.extract 1 s.size).data.toList = r := by
  have e : s.size = (c :: r).length := by rw [← h, Array.length_toList]; rfl
  have : (s.extract 1 s.size).data = s.data.extract 1 s.size := by simp
  rw [this, Array.toList_extract, h, e]
  simp

theorem rparse_any (s : ByteArray) (hs : s.size ≤ maxLen) (w : World) :
    Calls Tryd.prog 26 #[.string s] w fun e w' => e = .returned (.tuple #[.int .i64 (parseP s.data.toList).1, .int .i64 (parseP s.data.toList).2]) ∧ w' = w := by
  cases hl : s.data.toList with
  | nil =>
    have := bytes_eta hl
    subst this
    exact at_pair2 (by decide) (rparse_empty w)
  | cons c r =>
    have hsz : s.size = r.length + 1 := by
      have : s.size = s.data.toList.length := Lib.size_eq s
      rw [hl] at this
      simpa using this
    have hlt : 0 < s.size := by omega
    have hc0 : s[0] = c := by
      have := head_at hlt
      rw [hl] at this
      simpa using this.symm
    by_cases h45 : c = 45
    · subst h45
      have hneg : ((s[0].toNat : Int) == 45) = true := by rw [hc0]; rfl
      have hn48 : ¬ ((45 : UInt8) :: r) = [48] := by simp
      have htrim : trim (45 :: r) = r := by simp [trim, Lib.trimPrefix, Lib.hasPrefix]
      have hisneg : isNeg (45 :: r) = true := by simp [isNeg]
      have hne : (s.toList == [48]) = false := by rw [Lib.toList_data, hl, beq_eq_false_iff_ne]; exact hn48
      obtain ⟨t, ht⟩ : ∃ t, s.extract 1 s.size = t := ⟨_, rfl⟩
      have htl : t.data.toList = r := by rw [← ht]; exact extract_tail hl
      have htsz : t.size = r.length := by
        have : t.size = t.data.toList.length := Lib.size_eq t
        rw [htl] at this
        exact this
      cases hr : r with
      | nil =>
        rw [hr] at hl
        have := bytes_eta hl
        subst this
        exact at_pair2 (by decide) (rparse_minus w)
      | cons c2 r2 =>
        have h0 : 0 < t.size := by rw [htsz, hr]; simp
        have hc2 : t[0] = c2 := by
          have := head_at h0
          rw [htl, hr] at this
          simpa using this.symm
        by_cases h48 : c2 = 48
        · subst h48
          rw [hr] at htrim hn48
          exact at_pair2 (parse_form (form_cons0 hn48 htrim)) (rparse_neg0 s t hs hlt hneg ht h0 (by rw [hc2]; rfl) hne w)
        · rw [hr] at htrim hn48 hisneg htl
          have hform : numForm (45 :: c2 :: r2) = allDig t.data.toList := by rw [htl]; exact form_cons hn48 htrim h48
          have hval : numVal (45 :: c2 :: r2) = -(valFrom 0 t.data.toList : Int) := by unfold numVal; rw [hisneg, if_pos rfl, htrim, htl]
          refine rparse_neg s t hs hlt hneg ht h0 (by rw [hc2]; exact not48 h48) w _ (fun h => parse_form (hform.trans h)) (fun h hf => ?_) (fun h hf => ?_)
          · rw [← hval]; exact parse_in (hform.trans h) (by rw [hval]; unfold Fits; omega)
          · exact parse_out (hform.trans h) (by rw [hval]; unfold Fits; omega)
    · have hneg : ((s[0].toNat : Int) == 45) = false := by
        rw [hc0, beq_eq_false_iff_ne]
        intro e
        exact h45 (UInt8.toNat_inj.1 (by have : c.toNat = 45 := by omega
                                         rw [this]; rfl))
      have hisneg : isNeg (c :: r) = false := by simp [isNeg, h45]
      have htrim : trim (c :: r) = c :: r := by
        rcases trim_cases (c :: r) with h | h
        · rw [hisneg] at h; exact absurd h.1 (by simp)
        · exact h.2
      by_cases h48 : c = 48
      · subst h48
        by_cases hr : r = []
        · subst hr
          have := bytes_eta hl
          subst this
          exact at_pair2 (by decide) (rparse_zero w)
        · have hn48 : ¬ ((48 : UInt8) :: r) = [48] := by simp [hr]
          have hne : (s.toList == [48]) = false := by rw [Lib.toList_data, hl, beq_eq_false_iff_ne]; exact hn48
          exact at_pair2 (parse_form (form_cons0 hn48 htrim)) (rparse_pos0 s hs hlt (by rw [hc0]; rfl) hne w)
      · have hn48 : ¬ (c :: r) = [48] := by simp [h48]
        have hform : numForm (c :: r) = allDig s.data.toList := by rw [hl]; exact form_cons hn48 htrim h48
        have hval : numVal (c :: r) = (valFrom 0 s.data.toList : Int) := by unfold numVal; rw [hisneg, if_neg (by simp), htrim, hl]
        refine rparse_pos s hs hlt hneg (by rw [hc0]; exact not48 h48) w _ (fun h => parse_form (hform.trans h)) (fun h hf => ?_) (fun h hf => ?_)
        · rw [← hval]; exact parse_in (hform.trans h) (by rw [hval]; unfold Fits; omega)
        · exact parse_out (hform.trans h) (by rw [hval]; unfold Fits; omega)
end Go.Proofs.YtkmnboaimhcmiaaDoor
