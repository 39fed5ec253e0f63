/- Walks of the text of a value: write, Text. -/
import Derived.Test.YtbfkcfhkccicoaaDoorTextX
namespace Go.Proofs.YtbfkcfhkccicoaaDoor
open Go.RowKit

set_option maxRecDepth 100000 in
set_option maxHeartbeats 4000000 in
theorem write_any : ∀ v : V, WriteC v := by
  refine V.ind fun v ih B b l w d hat h hBw ht hm hlen => ?_
  have hb1 : Below w.heap.size w (w.alloc v.obj) := below_box w v.obj
  have hkw : Kept B b w (w.alloc v.obj) := (Kept.refl B b w).later hb1 hBw
  have hp := v.size_pos
  have hmk := hm
  rw [V.may_eq] at hmk
  have H1 := hide (h.later hb1)
  have HT1 := hide (ht.below (hb1.mono hBw))
  have hsb : B ≤ (w.alloc v.obj).heap.size := by simp; omega
  by_cases h1 : v.kind = 1
  · have HT := hide (V.text_num h1)
    have il := itoa_len hat.flat.n0 hat.flat.n1
    have n0 := hat.flat.n0
    have n1 := hat.flat.n1
    have hobj : v.obj = .cells #[.int .i64 1, .int .i64 v.num, .string v.str, .slice v.addr v.len v.cap] 32 := by unfold V.obj; rw [h1]
    rw [hobj] at H1 HT1 hkw hsb hb1
    have HKW := hide hkw
    clear hmk hobj hkw hb1 ih
    go_enter Tryd.func27, Tryd.ntmps27
    go_wp2_with fail
    refine (numText_any v.num n0 n1 B _ (unhide HT1)).mono ?_
    rintro e w2 ⟨rfl, b2⟩
    have hB2 : Bld B b l w2 := (unhide H1).later b2
    have hk2 := (unhide HKW).later b2 hsb
    have hs2 : B ≤ w2.heap.size := Nat.le_trans hBw hk2.below.size
    have HB2 := hide hB2
    have HK2 := hide hk2
    clear hB2 hk2 b2
    go_wp2_with fail
    refine (wstr_any B b l _ _ (unhide HB2) (by
      have e : (⟨(Lib.itoa v.num).toArray⟩ : ByteArray).size = (Lib.itoa v.num).length := by simp [ByteArray.size]
      omega) hs2).mono ?_
    rintro e w3 ⟨rfl, h3, k3⟩
    have hF := (unhide HK2).trans k3
    have H3 : Hid (Bld B b (l ++ v.text) w3) := by
      show Bld _ _ _ _
      rw [unhide HT]
      simpa using h3
    clear h3 k3
    go_wp2_with fail
    go_end0
    exact ⟨rfl, unhide H3, hF⟩
  · rw [if_neg h1] at hmk
    by_cases h2 : v.kind = 2
    · rw [if_pos h2] at hmk
      simp only [Bool.and_eq_true, decide_eq_true_eq] at hmk
      have hs := hmk.2
      have HT := hide (V.text_sym h2)
      have hobj : v.obj = .cells #[.int .i64 2, .int .i64 v.num, .string v.str, .slice v.addr v.len v.cap] 32 := by unfold V.obj; rw [h2]
      rw [hobj] at H1 HT1 hkw hsb hb1
      have HKW := hide hkw
      clear hmk hobj hkw hb1 ih h1
      go_enter Tryd.func27, Tryd.ntmps27
      go_wp2_with fail
      refine (wsym_any B b l _ _ (unhide H1) (by omega) hs hsb).mono ?_
      rintro e w3 ⟨rfl, h3, k3⟩
      have hF := (unhide HKW).trans k3
      have H3 : Hid (Bld B b (l ++ v.text) w3) := by
        show Bld _ _ _ _
        rw [unhide HT]; exact h3
      clear h3 k3
      go_wp2_with fail
      go_end0
      exact ⟨rfl, unhide H3, hF⟩
    · rw [if_neg h2] at hmk
      simp only [Bool.and_eq_true, decide_eq_true_eq] at hmk
      have h3 := hmk.1.1.1.1.1
      have e1 : (v.kind == 1) = false := beq_eq_false_iff_ne.2 h1
      have e2 : (v.kind == 2) = false := beq_eq_false_iff_ne.2 h2
      have e3 : (v.kind == 3) = true := beq_iff_eq.2 h3
      have H3 := hide h3
      have IH := hide ih
      have HKW := hide hkw
      have HM := hide hm
      have HAT := hide (hat.below (hb1.mono hBw))
      clear hmk h1 h2 h3 ih hkw hm hb1
      go_enter Tryd.func27, Tryd.ntmps27
      go_wp2_with fail
      refine (wcon_any v (unhide IH) B b l _ d (unhide HAT) (unhide H1) hsb (unhide HT1) (unhide HM) hlen (unhide H3)).mono ?_
      rintro e w3 ⟨rfl, h3, k3⟩
      have hF := (unhide HKW).trans k3
      have HB3 := hide h3
      clear h3 k3
      go_wp2_with fail
      go_end0
      exact ⟨rfl, unhide HB3, hF⟩

/-- Text: of any value. -/
def textAll (v : V) : List UInt8 := if v.right then v.text else [63]
theorem text_ne {v : V} : v.text ≠ [] := by
  cases v with
  | none => simp [V.text]
  | mk k n s a l c f =>
    by_cases h1 : k = 1
    · rw [V.text_num (v := .mk k n s a l c f) h1]
      show Lib.itoa n ≠ []
      unfold Lib.itoa
      split
      · simp
      · rw [Lib.decDigits]; split <;> simp
    · by_cases h2 : k = 2
      · rw [V.text_sym (v := .mk k n s a l c f) h2]; simp [quoted]
      · show (if k = 1 then _ else if k = 2 then _ else _) ≠ _
        rw [if_neg h1, if_neg h2]; simp

theorem fresh_builder (w : World) : Bld w.heap.size w.heap.size [] (w.alloc (.cells #[.pointer none, .slice none 0 0] 72)) := by
  refine .inl ⟨Nat.le_refl _, .slice none 0 0, World.alloc_heap_new w _, ?_, by simp [Value.ownBlock]⟩
  exact World.ownsRowF_of (World.ownsRow_nil _ _ _ _)

set_option maxRecDepth 100000 in
set_option maxHeartbeats 4000000 in
/-- term.Text. -/
theorem text_any (v : V) (B : Nat) (w : World) (hat : v.At B w) (hB : B ≤ w.heap.size) (ht : Tbl B w) :
    Calls Tryd.prog 17 #[v.val] w fun e w' => e = .returned (.string ⟨(textAll v).toArray⟩) ∧ Below w.heap.size w w' := by
  have b1 := below_box w v.obj
  have hbx := boxed w v
  have HAT := hide hat
  have HTB := hide ht
  go_enter Tryd.func17, Tryd.ntmps17
  go_wp2_with fail
  refine (right_any v B _ (hat.below (b1.mono hB)) (by simp; omega)).mono ?_
  rintro e w2 ⟨rfl, b2⟩
  have hx2 := hbx.below b2 (by simp)
  have bw : Below w.heap.size w w2 := b1.trans (b2.mono (by simp))
  have hs2 : w.heap.size + 1 ≤ w2.heap.size := by have := b2.size; simpa using this
  obtain ⟨x0, x1, x2, x3⟩ := hx2.z
  cases hr : v.right
  · have HF : Hid (textAll v = [63]) := by show _ = _; unfold textAll; rw [hr]; rfl
    clear b1 b2 hbx hx2 hs2
    go_wp2_with fail
    go_ret
    exact ⟨ret_str (a := [63]) HF.out.symm, bw⟩
  · have HF : Hid (textAll v = v.text) := by show _ = _; unfold textAll; rw [hr]; rfl
    have HM := hide (right_may hr)
    have hsz : v.size ≤ 1024 := by
      unfold V.right at hr
      simp only [Bool.and_eq_true, decide_eq_true_eq] at hr
      exact hr.2
    have hfb := fresh_builder w2
    have b3 : Below w2.heap.size w2 (w2.alloc (.cells #[.pointer none, .slice none 0 0] 72)) := below_box w2 _
    have hx3 := (hx2.below b3 (by omega)).z
    have hat3 : v.At w2.heap.size (w2.alloc (.cells #[.pointer none, .slice none 0 0] 72)) := (hat.below ((bw.trans (b3.mono (by omega))).mono hB)).more (by omega) v
    have ht3 : Tbl w2.heap.size (w2.alloc (.cells #[.pointer none, .slice none 0 0] 72)) := (ht.below ((bw.trans (b3.mono (by omega))).mono hB)).more (by omega)
    obtain ⟨y0, y1, y2, y3⟩ := hx3
    have HFB := hide hfb
    have HAT3 := hide hat3
    have HT3 := hide ht3
    have HS2 := hide hs2
    clear b1 b2 hbx hx2 hs2 hfb hat3 ht3 x0 x1 x2 x3
    go_wp2_with fail
    refine (write_any v w2.heap.size w2.heap.size [] _ 32 (unhide HAT3) (unhide HFB) (by simp) (unhide HT3) (unhide HM) (by simp; omega)).mono ?_
    rintro e w4 ⟨rfl, h4, k4⟩
    have bw4 : Below w.heap.size w w4 := bw.trans ((b3.trans k4.below).mono (by have := unhide HS2; omega))
    have H4 := hide h4
    clear h4 k4 b3 y0 y1 y2 y3
    go_wp2_with fail
    refine (Tryd.Builder_String_k w2.heap.size w2.heap.size v.text _ (by simpa using unhide H4) text_ne).mono ?_
    rintro e w5 ⟨rfl, _, b5, _⟩
    have bw5 : Below w.heap.size w w5 := bw4.trans (b5.mono (by have := unhide HS2; omega))
    clear b5
    go_wp2_with fail
    go_ret
    exact ⟨ret_str HF.out.symm, bw5⟩
end Go.Proofs.YtbfkcfhkccicoaaDoor
