/- Walks of a sign and of a token. -/
import Derived.Test.YtbekkpfbjafagaaDoorLxh
import Derived.Test.YtbekkpfbjafagaaDoorLxi
import Derived.Test.YtbekkpfbjafagaaDoorLxj
namespace Go.Proofs.YtbekkpfbjafagaaDoor
open Go.RowKit

set_option maxRecDepth 100000 in
set_option maxHeartbeats 2000000 in
theorem signT_any (s : ByteArray) (k : Nat) (hk : k ≤ s.size) (hs : s.size ≤ 65536) (w : World) (hsg : SignsAt w) :
    Calls Tryd.prog 38 #[.string s, .int .i64 (k : Int)] w fun e w' => e = .returned (resT k (sgRes (s.data.toList.drop k))).val ∧ Below w.heap.size w w' := by
  have hb := two_made w
  have HSG := hide (hsg.later hb)
  clear hsg
  have hle := sg_le (s.data.toList.drop k)
  rw [len_drop] at hle
  obtain ⟨n, hn⟩ : ∃ n, sgLen (s.data.toList.drop k) = n := ⟨_, rfl⟩
  have hrun0 := run_tail s k (k : Int) rfl hk
  obtain ⟨r, hr⟩ : ∃ r, s.extract k s.size = r := ⟨_, rfl⟩
  have hrl : r.data.toList = s.data.toList.drop k := by rw [← hr]; exact ext_drop s k
  rw [hr] at hrun0
  have HL := hide (show Calls Tryd.prog 50 #[.string r] ((w.alloc tokZ).alloc fltZ) fun e w' => e = .returned (.int .i64 (n : Int)) ∧ w' = (w.alloc tokZ).alloc fltZ by
    have := signLength_any r _ (unhide HSG); rw [hrl, hn] at this; exact this)
  rw [hn] at hle
  clear hr hrl HSG
  by_cases h0 : n = 0
  · have H := hide (show resT k (sgRes (s.data.toList.drop k)) = ⟨0, ⟨#[]⟩, 0, 0, 0, 7, (k : Int)⟩ by unfold sgRes; rw [hn, if_pos h0]; rfl)
    clear hn
    subst h0
    go_enter Tryd.func38, Tryd.ntmps38
    go_wp2_with fail
    refine (unhide HL).mono ?_
    rintro e w1 ⟨rfl, rfl⟩
    go_wp2_with fail
    refine (wrong_any _ _ _).mono ?_
    rintro e w2 ⟨rfl, b2⟩
    have bx := boxes_later (w := w) (w2 := w2) (by simpa using b2)
    have bw : Below w.heap.size w w2 := hb.trans (b2.mono (by simp; omega))
    obtain ⟨x0, x1, x2, x3, y0, y1, fx, fy⟩ := bx
    clear b2 hb
    go_wp2_with fail
    refine bodyPost_ret (v := TV.val ⟨0, ⟨#[]⟩, 0, 0, 0, 7, (k : Int)⟩) (by simp [results, Tryd.results38, go_sem, x0, x1, x2, x3, y0, y1]) rfl ?_
    exact ⟨ret_tv (unhide H).symm, six_below bw (Nat.le_refl _) (Nat.le_succ _) _ _ _ _ _ _⟩
  · have hrun := run_piece s k n (k : Int) ((k : Int) + (n : Int)) rfl (by omega) (by omega)
    obtain ⟨u, hu⟩ : ∃ u, s.extract k (k + n) = u := ⟨_, rfl⟩
    have hul : u.data.toList = (s.data.toList.drop k).take n := by rw [← hu]; exact ext_piece s k n
    have husz : u.size ≤ 140737488355328 := by rw [size_len, hul, List.length_take]; omega
    rw [hu] at hrun
    have H := hide (show resT k (sgRes (s.data.toList.drop k)) = ⟨4, u, 0, (k : Int), (k : Int) + (n : Int), 0, 0⟩ by
      unfold sgRes; rw [hn, if_neg h0, ← hul]; exact resT_tok k 4 u 0 n)
    have h0' : ((n : Int) == 0) = false := by rw [beq_eq_false_iff_ne]; omega
    clear hn hu hul
    go_enter Tryd.func38, Tryd.ntmps38
    go_wp2_with fail
    refine (unhide HL).mono ?_
    rintro e w1 ⟨rfl, rfl⟩
    go_wp2_with fail
    refine (clone_any u _ husz).mono ?_
    rintro e w2 ⟨rfl, b2⟩
    have bx := boxes_later (w := w) (w2 := w2) (by simpa using b2)
    have bw : Below w.heap.size w w2 := hb.trans (b2.mono (by simp; omega))
    obtain ⟨x0, x1, x2, x3, y0, y1, fx, fy⟩ := bx
    clear b2 hb
    go_wp2_with fail
    refine bodyPost_ret (v := TV.val ⟨4, u, 0, (k : Int), (k : Int) + (n : Int), 0, 0⟩) (by simp [results, Tryd.results38, go_sem, x0, x1, x2, x3, y0, y1]) rfl ?_
    exact ⟨ret_tv (unhide H).symm, six_below bw (Nat.le_refl _) (Nat.le_succ _) _ _ _ _ _ _⟩

/-- What of the world the walks lean on. -/
structure Env (w : World) : Prop where
  sg : SignsAt w
  ml : ∃ m : Int, w.cell? ⟨2, 0, none⟩ = some (.int .i64 m)
  er : ∃ (t : TypeId) (p : Value), w.var? Tryd.prog "strconv.ErrRange" = some #[.iface t p]
theorem Env.later {w w' : World} (h : Env w) (hb : Below w.heap.size w w') : Env w' := by
  obtain ⟨m, hm⟩ := h.ml
  obtain ⟨t, p, hp⟩ := h.er
  exact ⟨h.sg.later hb, ⟨m, (hb.cell (World.block_lt_of_cell? w _ hm)).trans hm⟩, ⟨t, p, var_below hp hb⟩⟩

set_option maxRecDepth 100000 in
set_option maxHeartbeats 2000000 in
theorem token_any (s : ByteArray) (k : Nat) (hk : k < s.size) (hs : s.size ≤ 65536) (w : World) (hE : Env w) :
    Calls Tryd.prog 18 #[.string s, .int .i64 (k : Int)] w fun e w' => e = .returned (resT k (tokAt (s.data.toList.drop k))).val ∧ Below w.heap.size w w' := by
  have hb := two_made w
  have hE1 := hE.later hb
  have HT := hide (show tokAt (s.data.toList.drop k) = if isL (bv s[k]) then nmRes (s.data.toList.drop k) else if isD (bv s[k]) then dgRes (s.data.toList.drop k) else if s[k] = 34 then txRes (s.data.toList.drop (k + 1)) else sgRes (s.data.toList.drop k) by
    rw [drop_at s k hk]; exact tok_cons _ _)
  have HE := hide hE1
  clear hE hE1
  cases hl : isL (s[k].toNat : Int) with
  | true =>
    have H := hide (show tokAt (s.data.toList.drop k) = nmRes (s.data.toList.drop k) by rw [unhide HT, if_pos (show isL (bv s[k]) = true from hl)])
    obtain ⟨T, hT⟩ : ∃ T, resT k (nmRes (s.data.toList.drop k)) = T := ⟨_, rfl⟩
    rw [unhide H, hT]
    have HC := hide (show ∀ w, Calls Tryd.prog 34 #[.string s, .int .i64 (k : Int)] w fun e w' => e = .returned T.val ∧ Below w.heap.size w w' by
      intro w; rw [← hT]; exact nameT_any s k (by omega) hs w)
    clear H hT HT
    go_enter Tryd.func18, Tryd.ntmps18
    go_wp2_with fail
    refine (begins_any _ _).mono ?_
    rintro e w1 ⟨rfl, rfl⟩
    rw [hl]
    go_wp2_with fail
    refine (unhide HC _).mono ?_
    rintro e w2 ⟨rfl, b2⟩
    have bx := boxes_later (w := w) (w2 := w2) (by simpa using b2)
    have bw : Below w.heap.size w w2 := hb.trans (b2.mono (by simp; omega))
    obtain ⟨x0, x1, x2, x3, y0, y1, fx, fy⟩ := bx
    clear b2 hb
    go_wp2_with fail
    refine bodyPost_ret (v := T.val) (by simp [results, Tryd.results18, go_sem, x0, x1, x2, x3, y0, y1]) rfl ?_
    exact ⟨rfl, six_below bw (Nat.le_refl _) (Nat.le_succ _) _ _ _ _ _ _⟩
  | false =>
    cases hd : isD (s[k].toNat : Int) with
    | true =>
      have H := hide (show tokAt (s.data.toList.drop k) = dgRes (s.data.toList.drop k) by rw [unhide HT, if_neg (by rw [show isL (bv s[k]) = false from hl]; simp), if_pos (show isD (bv s[k]) = true from hd)])
      obtain ⟨T, hT⟩ : ∃ T, resT k (dgRes (s.data.toList.drop k)) = T := ⟨_, rfl⟩
      rw [unhide H, hT]
      obtain ⟨t1, p1, hv⟩ := (unhide HE).er
      have HC := hide (show Calls Tryd.prog 36 #[.string s, .int .i64 (k : Int)] ((w.alloc tokZ).alloc fltZ) fun e w' => e = .returned T.val ∧ Below ((w.alloc tokZ).alloc fltZ).heap.size ((w.alloc tokZ).alloc fltZ) w' by
        rw [← hT]; exact numberT_any s k hk hd hs _ hv)
      clear H hT HT hv
      go_enter Tryd.func18, Tryd.ntmps18
      go_wp2_with fail
      refine (begins_any _ _).mono ?_
      rintro e w1 ⟨rfl, rfl⟩
      rw [hl]
      go_wp2_with fail
      refine (isDigit_any _ _).mono ?_
      rintro e w1 ⟨rfl, rfl⟩
      rw [hd]
      go_wp2_with fail
      refine (unhide HC).mono ?_
      rintro e w2 ⟨rfl, b2⟩
      have bx := boxes_later (w := w) (w2 := w2) (by simpa using b2)
      have bw : Below w.heap.size w w2 := hb.trans (b2.mono (by simp; omega))
      obtain ⟨x0, x1, x2, x3, y0, y1, fx, fy⟩ := bx
      clear b2 hb
      go_wp2_with fail
      refine bodyPost_ret (v := T.val) (by simp [results, Tryd.results18, go_sem, x0, x1, x2, x3, y0, y1]) rfl ?_
      exact ⟨rfl, six_below bw (Nat.le_refl _) (Nat.le_succ _) _ _ _ _ _ _⟩
    | false =>
      have H0 := hide (show tokAt (s.data.toList.drop k) = if s[k] = 34 then txRes (s.data.toList.drop (k + 1)) else sgRes (s.data.toList.drop k) by
        rw [unhide HT, if_neg (by rw [show isL (bv s[k]) = false from hl]; simp), if_neg (by rw [show isD (bv s[k]) = false from hd]; simp)])
      cases e1 : ((s[k].toNat : Int) == 34) with
      | true =>
        have H := hide (show tokAt (s.data.toList.drop k) = txRes (s.data.toList.drop (k + 1)) by rw [unhide H0, if_pos (show s[k] = 34 from (bv_eq (k := 34) (by omega)).1 (beq_iff_eq.1 e1))])
        obtain ⟨T, hT⟩ : ∃ T, resT k (txRes (s.data.toList.drop (k + 1))) = T := ⟨_, rfl⟩
        rw [unhide H, hT]
        have HC := hide (show ∀ w, Calls Tryd.prog 37 #[.string s, .int .i64 (k : Int)] w fun e w' => e = .returned T.val ∧ Below w.heap.size w w' by
          intro w; rw [← hT]; exact textT_any s k hk hs w)
        clear H hT HT H0
        go_enter Tryd.func18, Tryd.ntmps18
        go_wp2_with fail
        refine (begins_any _ _).mono ?_
        rintro e w1 ⟨rfl, rfl⟩
        rw [hl]
        go_wp2_with fail
        refine (isDigit_any _ _).mono ?_
        rintro e w1 ⟨rfl, rfl⟩
        rw [hd]
        go_wp2_with fail
        refine (unhide HC _).mono ?_
        rintro e w2 ⟨rfl, b2⟩
        have bx := boxes_later (w := w) (w2 := w2) (by simpa using b2)
        have bw : Below w.heap.size w w2 := hb.trans (b2.mono (by simp; omega))
        obtain ⟨x0, x1, x2, x3, y0, y1, fx, fy⟩ := bx
        clear b2 hb
        go_wp2_with fail
        refine bodyPost_ret (v := T.val) (by simp [results, Tryd.results18, go_sem, x0, x1, x2, x3, y0, y1]) rfl ?_
        exact ⟨rfl, six_below bw (Nat.le_refl _) (Nat.le_succ _) _ _ _ _ _ _⟩
      | false =>
        have H := hide (show tokAt (s.data.toList.drop k) = sgRes (s.data.toList.drop k) by rw [unhide H0, if_neg (fun e => beq_eq_false_iff_ne.1 e1 (by rw [e]; rfl))])
        obtain ⟨T, hT⟩ : ∃ T, resT k (sgRes (s.data.toList.drop k)) = T := ⟨_, rfl⟩
        rw [unhide H, hT]
        have HC := hide (show Calls Tryd.prog 38 #[.string s, .int .i64 (k : Int)] ((w.alloc tokZ).alloc fltZ) fun e w' => e = .returned T.val ∧ Below ((w.alloc tokZ).alloc fltZ).heap.size ((w.alloc tokZ).alloc fltZ) w' by
          rw [← hT]; exact signT_any s k (by omega) hs _ (unhide HE).sg)
        clear H hT HT H0
        go_enter Tryd.func18, Tryd.ntmps18
        go_wp2_with fail
        refine (begins_any _ _).mono ?_
        rintro e w1 ⟨rfl, rfl⟩
        rw [hl]
        go_wp2_with fail
        refine (isDigit_any _ _).mono ?_
        rintro e w1 ⟨rfl, rfl⟩
        rw [hd]
        go_wp2_with fail
        refine (unhide HC).mono ?_
        rintro e w2 ⟨rfl, b2⟩
        have bx := boxes_later (w := w) (w2 := w2) (by simpa using b2)
        have bw : Below w.heap.size w w2 := hb.trans (b2.mono (by simp; omega))
        obtain ⟨x0, x1, x2, x3, y0, y1, fx, fy⟩ := bx
        clear b2 hb
        go_wp2_with fail
        refine bodyPost_ret (v := T.val) (by simp [results, Tryd.results18, go_sem, x0, x1, x2, x3, y0, y1]) rfl ?_
        exact ⟨rfl, six_below bw (Nat.le_refl _) (Nat.le_succ _) _ _ _ _ _ _⟩
end Go.Proofs.YtbekkpfbjafagaaDoor
