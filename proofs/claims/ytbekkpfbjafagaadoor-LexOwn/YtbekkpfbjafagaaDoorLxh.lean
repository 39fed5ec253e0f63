/- Walks of a number. -/
import Derived.Test.YtbekkpfbjafagaaDoorLxg
namespace Go.Proofs.YtbekkpfbjafagaaDoor
open Go.RowKit

theorem var_below {w w' : World} {name : String} {x : Array Value} (h : w.var? Tryd.prog name = some x) (hb : Below w.heap.size w w') : w'.var? Tryd.prog name = some x := by
  unfold World.var? at *
  cases hg : Tryd.prog.globalNamed name with
  | none => rw [hg] at h; simp at h
  | some g =>
    rw [hg] at h
    simp only [Option.bind_some] at h ⊢
    by_cases hlt : g < w.heap.size
    · rw [hb.block g hlt]; exact h
    · rw [Array.getElem?_eq_none (by omega)] at h
      simp at h

theorem vl_eq : ∀ (l : Txt) (acc : Nat), vl acc l = Num.valFrom acc l
  | [], _ => rfl
  | _ :: l, _ => vl_eq l _
theorem dig_D {c : UInt8} (h : isD (bv c) = true) : Num.dig c = true := by
  unfold isD bv at h
  unfold Num.dig
  simp only [Bool.and_eq_true, decide_eq_true_eq] at h ⊢
  omega
theorem dig_take : ∀ r : Txt, (r.take (dcn r)).all Num.dig = true
  | [] => rfl
  | c :: t => by
    cases h : isD (bv c) with
    | true =>
      have e : dcn (c :: t) = dcn t + 1 := by simp [dcn, h]
      rw [e, List.take_succ_cons, List.all_cons, dig_D h, dig_take t]; rfl
    | false =>
      have e : dcn (c :: t) = 0 := by simp [dcn, h]
      rw [e]; rfl
theorem dg_form {c : UInt8} {t : Txt} (h : isD (bv c) = true) :
    Num.numForm ((c :: t).take (dgLen (c :: t))) = true ∧ Num.numVal ((c :: t).take (dgLen (c :: t))) = (vl 0 ((c :: t).take (dgLen (c :: t))) : Int) := by
  by_cases h0 : c = 48
  · subst h0
    have e : dgLen (48 :: t) = 1 := by rw [dg_cons, if_pos rfl]
    rw [e, show (48 :: t).take 1 = [48] from rfl]
    exact ⟨by decide, by decide⟩
  · have e : dgLen (c :: t) = dcn (c :: t) := by rw [dg_cons, if_neg h0]
    have e2 : dcn (c :: t) = dcn t + 1 := by simp [dcn, h]
    rw [e]
    have hall := dig_take (c :: t)
    rw [e2, List.take_succ_cons] at hall ⊢
    have hc : ¬ c = 45 := by rintro rfl; exact absurd h (by decide)
    have hn : Num.isNeg (c :: t.take (dcn t)) = false := by simp [Num.isNeg, hc]
    have ht : Num.trim (c :: t.take (dcn t)) = c :: t.take (dcn t) := by
      rcases Num.trim_cases (c :: t.take (dcn t)) with h | h
      · rw [hn] at h; exact absurd h.1 (by simp)
      · exact h.2
    refine ⟨?_, ?_⟩
    · by_cases hz : (c :: t.take (dcn t)) = [48]
      · exact absurd (by injection hz) h0
      · rw [Num.form_cons hz ht h0]; exact hall
    · unfold Num.numVal
      rw [hn, ht, vl_eq]; rfl
theorem dg_parse {c : UInt8} {t : Txt} (h : isD (bv c) = true) : Num.parseP ((c :: t).take (dgLen (c :: t))) =
    if 9223372036854775807 < vl 0 ((c :: t).take (dgLen (c :: t))) then (0, 8) else ((vl 0 ((c :: t).take (dgLen (c :: t))) : Int), 0) := by
  obtain ⟨h1, h2⟩ := dg_form (t := t) h
  split
  · rename_i hv
    exact Num.parse_out h1 (by rw [h2]; unfold Num.Fits; omega)
  · rename_i hv
    rw [Num.parse_in h1 (by rw [h2]; unfold Num.Fits; omega), h2]

theorem noW_at {s : ByteArray} {m : Nat} (h : m < s.size) : noW (s.data.toList.drop m) = !inW (bv s[m]) := by rw [drop_at s m h]; rfl

set_option maxRecDepth 100000 in
set_option maxHeartbeats 2000000 in
theorem numberT_any (s : ByteArray) (k : Nat) (hk : k < s.size) (hd : isD (bv s[k]) = true) (hs : s.size ≤ 65536) (w : World) {t1 : TypeId} {p1 : Value}
    (hv1 : w.var? Tryd.prog "strconv.ErrRange" = some #[.iface t1 p1]) :
    Calls Tryd.prog 36 #[.string s, .int .i64 (k : Int)] w fun e w' => e = .returned (resT k (dgRes (s.data.toList.drop k))).val ∧ Below w.heap.size w w' := by
  have hb := two_made w
  have HV := hide (var_below hv1 hb)
  clear hv1
  have hle := dg_le (s.data.toList.drop k)
  rw [len_drop] at hle
  have hP := dg_parse (t := s.data.toList.drop (k + 1)) hd
  rw [← drop_at s k hk] at hP
  obtain ⟨n, hn⟩ : ∃ n, dgLen (s.data.toList.drop k) = n := ⟨_, rfl⟩
  have HE := hide (show ∀ w, Calls Tryd.prog 47 #[.string s, .int .i64 (k : Int)] w fun e w' => e = .returned (.int .i64 ((k : Int) + (n : Int))) ∧ w' = w by
    intro w; have := digitsEnd_any s k hk (by omega) w; rw [hn] at this; simpa using this)
  rw [hn] at hle hP
  have hrun := run_piece s k n (k : Int) ((k : Int) + (n : Int)) rfl (by omega) (by omega)
  obtain ⟨u, hu⟩ : ∃ u, s.extract k (k + n) = u := ⟨_, rfl⟩
  have hul : u.data.toList = (s.data.toList.drop k).take n := by rw [← hu]; exact ext_piece s k n
  have husz : u.size ≤ 281474976710656 := by rw [size_len, hul, List.length_take]; omega
  rw [hu] at hrun
  rw [← hul] at hP
  have HR := hide (show dgRes (s.data.toList.drop k) = if noW (s.data.toList.drop (k + n)) = false then .bad 7 n else if 9223372036854775807 < vl 0 u.data.toList then .bad 8 0 else .tok 2 [] (vl 0 u.data.toList) n by
    unfold dgRes; rw [hn, hul, List.drop_drop])
  clear hu hul hn
  have HP := hide hP
  clear hP
  by_cases hend : k + n < s.size
  · cases hw : inW (s[k + n].toNat : Int) with
    | true =>
      have H := hide (show resT k (dgRes (s.data.toList.drop k)) = ⟨0, ⟨#[]⟩, 0, 0, 0, 7, (k : Int) + (n : Int)⟩ by
        rw [unhide HR, if_pos (by rw [noW_at hend, show inW (bv s[k + n]) = true from hw]; rfl)]; simp [resT])
      clear HR
      go_enter Tryd.func36, Tryd.ntmps36
      go_wp2_with fail
      refine (unhide HE _).mono ?_
      rintro e w1 ⟨rfl, rfl⟩
      go_wp2_with fail
      refine (inWord_any _ _).mono ?_
      rintro e w1 ⟨rfl, rfl⟩
      rw [hw]
      go_wp2_with fail
      refine (wrong_any _ _ _).mono ?_
      rintro e w2 ⟨rfl, b2⟩
      have bx := boxes_later (w := w) (w2 := w2) (by simpa using b2)
      have bw : Below w.heap.size w w2 := hb.trans (b2.mono (by simp; omega))
      obtain ⟨x0, x1, x2, x3, y0, y1, fx, fy⟩ := bx
      clear b2 hb
      go_wp2_with fail
      refine bodyPost_ret (v := TV.val ⟨0, ⟨#[]⟩, 0, 0, 0, 7, (k : Int) + (n : Int)⟩) (by simp [results, Tryd.results36, go_sem, x0, x1, x2, x3, y0, y1]) rfl ?_
      exact ⟨ret_tv (unhide H).symm, six_below bw (Nat.le_refl _) (Nat.le_succ _) _ _ _ _ _ _⟩
    | false =>
      have hno : noW (s.data.toList.drop (k + n)) = true := by rw [noW_at hend, show inW (bv s[k + n]) = false from hw]; rfl
      by_cases hv : 9223372036854775807 < vl 0 u.data.toList
      · have H := hide (show resT k (dgRes (s.data.toList.drop k)) = ⟨0, ⟨#[]⟩, 0, 0, 0, 8, (k : Int)⟩ by
          rw [unhide HR, if_neg (by rw [hno]; simp), if_pos hv]; simp [resT])
        have HQ := hide (show Num.parseP u.data.toList = (0, 8) by rw [unhide HP, if_pos hv])
        clear HR HP hno hv
        go_enter Tryd.func36, Tryd.ntmps36
        go_wp2_with fail
        refine (unhide HE _).mono ?_
        rintro e w1 ⟨rfl, rfl⟩
        go_wp2_with fail
        refine (inWord_any _ _).mono ?_
        rintro e w1 ⟨rfl, rfl⟩
        rw [hw]
        go_wp2_with fail
        refine (Num.parse_any u _ husz (unhide HV)).mono ?_
        rintro e w1 ⟨rfl, b1⟩
        rw [unhide HQ]
        go_wp2_with fail
        refine (wrong_any _ _ _).mono ?_
        rintro e w2 ⟨rfl, b2'⟩
        have b2 := b1.trans (b2'.mono b1.size)
        clear b1 b2'
        have bx := boxes_later (w := w) (w2 := w2) (by simpa using b2)
        have bw : Below w.heap.size w w2 := hb.trans (b2.mono (by simp; omega))
        obtain ⟨x0, x1, x2, x3, y0, y1, fx, fy⟩ := bx
        clear b2 hb
        go_wp2_with fail
        refine bodyPost_ret (v := TV.val ⟨0, ⟨#[]⟩, 0, 0, 0, 8, (k : Int)⟩) (by simp [results, Tryd.results36, go_sem, x0, x1, x2, x3, y0, y1]) rfl ?_
        exact ⟨ret_tv (unhide H).symm, six_below bw (Nat.le_refl _) (Nat.le_succ _) _ _ _ _ _ _⟩
      · have H := hide (show resT k (dgRes (s.data.toList.drop k)) = ⟨2, ⟨#[]⟩, (vl 0 u.data.toList : Int), (k : Int), (k : Int) + (n : Int), 0, 0⟩ by
          rw [unhide HR, if_neg (by rw [hno]; simp), if_neg hv]; simp [resT])
        have HQ := hide (show Num.parseP u.data.toList = ((vl 0 u.data.toList : Int), 0) by rw [unhide HP, if_neg hv])
        clear HR HP hno hv
        go_enter Tryd.func36, Tryd.ntmps36
        go_wp2_with fail
        refine (unhide HE _).mono ?_
        rintro e w1 ⟨rfl, rfl⟩
        go_wp2_with fail
        refine (inWord_any _ _).mono ?_
        rintro e w1 ⟨rfl, rfl⟩
        rw [hw]
        go_wp2_with fail
        refine (Num.parse_any u _ husz (unhide HV)).mono ?_
        rintro e w2 ⟨rfl, b2⟩
        rw [unhide HQ]
        obtain ⟨vv, hvv⟩ : ∃ vv : Int, (vl 0 u.data.toList : Int) = vv := ⟨_, rfl⟩
        rw [hvv] at H ⊢
        clear hvv HQ
        have bx := boxes_later (w := w) (w2 := w2) (by simpa using b2)
        have bw : Below w.heap.size w w2 := hb.trans (b2.mono (by simp; omega))
        obtain ⟨x0, x1, x2, x3, y0, y1, fx, fy⟩ := bx
        clear b2 hb
        go_wp2_with fail
        refine bodyPost_ret (v := TV.val ⟨2, ⟨#[]⟩, vv, (k : Int), (k : Int) + (n : Int), 0, 0⟩) (by simp [results, Tryd.results36, go_sem, x0, x1, x2, x3, y0, y1]) rfl ?_
        exact ⟨ret_tv (unhide H).symm, six_below bw (Nat.le_refl _) (Nat.le_succ _) _ _ _ _ _ _⟩
  · have hno : noW (s.data.toList.drop (k + n)) = true := by rw [drop_end s (k + n) (by omega)]; rfl
    by_cases hv : 9223372036854775807 < vl 0 u.data.toList
    · have H := hide (show resT k (dgRes (s.data.toList.drop k)) = ⟨0, ⟨#[]⟩, 0, 0, 0, 8, (k : Int)⟩ by
        rw [unhide HR, if_neg (by rw [hno]; simp), if_pos hv]; simp [resT])
      have HQ := hide (show Num.parseP u.data.toList = (0, 8) by rw [unhide HP, if_pos hv])
      clear HR HP hno hv
      go_enter Tryd.func36, Tryd.ntmps36
      go_wp2_with fail
      refine (unhide HE _).mono ?_
      rintro e w1 ⟨rfl, rfl⟩
      go_wp2_with fail
      refine (Num.parse_any u _ husz (unhide HV)).mono ?_
      rintro e w1 ⟨rfl, b1⟩
      rw [unhide HQ]
      go_wp2_with fail
      refine (wrong_any _ _ _).mono ?_
      rintro e w2 ⟨rfl, b2'⟩
      have b2 := b1.trans (b2'.mono b1.size)
      clear b1 b2'
      have bx := boxes_later (w := w) (w2 := w2) (by simpa using b2)
      have bw : Below w.heap.size w w2 := hb.trans (b2.mono (by simp; omega))
      obtain ⟨x0, x1, x2, x3, y0, y1, fx, fy⟩ := bx
      clear b2 hb
      go_wp2_with fail
      refine bodyPost_ret (v := TV.val ⟨0, ⟨#[]⟩, 0, 0, 0, 8, (k : Int)⟩) (by simp [results, Tryd.results36, go_sem, x0, x1, x2, x3, y0, y1]) rfl ?_
      exact ⟨ret_tv (unhide H).symm, six_below bw (Nat.le_refl _) (Nat.le_succ _) _ _ _ _ _ _⟩
    · have H := hide (show resT k (dgRes (s.data.toList.drop k)) = ⟨2, ⟨#[]⟩, (vl 0 u.data.toList : Int), (k : Int), (k : Int) + (n : Int), 0, 0⟩ by
        rw [unhide HR, if_neg (by rw [hno]; simp), if_neg hv]; simp [resT])
      have HQ := hide (show Num.parseP u.data.toList = ((vl 0 u.data.toList : Int), 0) by rw [unhide HP, if_neg hv])
      clear HR HP hno hv
      go_enter Tryd.func36, Tryd.ntmps36
      go_wp2_with fail
      refine (unhide HE _).mono ?_
      rintro e w1 ⟨rfl, rfl⟩
      go_wp2_with fail
      refine (Num.parse_any u _ husz (unhide HV)).mono ?_
      rintro e w2 ⟨rfl, b2⟩
      rw [unhide HQ]
      obtain ⟨vv, hvv⟩ : ∃ vv : Int, (vl 0 u.data.toList : Int) = vv := ⟨_, rfl⟩
      rw [hvv] at H ⊢
      clear hvv HQ
      have bx := boxes_later (w := w) (w2 := w2) (by simpa using b2)
      have bw : Below w.heap.size w w2 := hb.trans (b2.mono (by simp; omega))
      obtain ⟨x0, x1, x2, x3, y0, y1, fx, fy⟩ := bx
      clear b2 hb
      go_wp2_with fail
      refine bodyPost_ret (v := TV.val ⟨2, ⟨#[]⟩, vv, (k : Int), (k : Int) + (n : Int), 0, 0⟩) (by simp [results, Tryd.results36, go_sem, x0, x1, x2, x3, y0, y1]) rfl ?_
      exact ⟨ret_tv (unhide H).symm, six_below bw (Nat.le_refl _) (Nat.le_succ _) _ _ _ _ _ _⟩
end Go.Proofs.YtbekkpfbjafagaaDoor
