/- BtreeOrders: the walk. -/
import Derived.Test.YtmjlhmhkbfnccaaOneW
namespace Go.Proofs.Ytmjlhmhkbfnccaa
open Go.RowKit Go.Shelf

theorem new_any (w : World) (ov : Value) (o : List Int) (ho : Ints w.heap.size w ov o) : Calls Try.prog 13 #[ov] w fun e w' => ∃ p er, e = .returned (.tuple #[.pointer p, .int .i64 er]) ∧ Below w.heap.size w w' := by
  cases hr : right o with
  | false => exact (new_no w ov o ho hr).mono fun e w' ⟨h1, h2⟩ => ⟨_, _, h1, h2⟩
  | true => exact (new_T2 w ov o ho hr).mono fun e w' ⟨sb, h1, _, h2⟩ => ⟨_, _, h1, h2⟩
theorem insTo_mem2 {o x y : List Int} {xs : List (List Int)} : y ∈ insTo o x xs ↔ (y ∈ xs ∨ (insBL o x xs = true ∧ y = x)) := by
  unfold insTo
  split
  · rename_i h
    rw [insX_mem]
    constructor
    · rintro (h1 | h1)
      · exact .inr ⟨h, h1⟩
      · exact .inl h1
    · rintro (h1 | ⟨_, h1⟩)
      · exact .inr h1
      · exact .inl h1
  · rename_i h
    exact ⟨.inl, fun h1 => h1.elim id (fun h2 => absurd h2.1 h)⟩
theorem insTo_length2 {o x : List Int} {xs : List (List Int)} : (insTo o x xs).length = xs.length + (if insBL o x xs = true then 1 else 0) := by
  unfold insTo
  split
  · exact insX_length
  · rfl
theorem same_ins {a b x : List Int} {A B : List (List Int)} (hab : a.length = b.length) (hm : ∀ y, y ∈ A ↔ y ∈ B) (hlen : A.length = B.length) :
    insBL b x B = insBL a x A ∧ insEL b x B = insEL a x A ∧ (∀ y, y ∈ insTo a x A ↔ y ∈ insTo b x B) ∧ (insTo a x A).length = (insTo b x B).length := by
  have e1 : fitB b x = fitB a x := by unfold fitB; rw [hab]
  have e2 : B.contains x = A.contains x := by rw [Bool.eq_iff_iff, List.contains_iff_mem, List.contains_iff_mem]; exact (hm x).symm
  have e3 : insBL b x B = insBL a x A := by unfold insBL; rw [e1, e2, hlen]
  have e4 : insEL b x B = insEL a x A := by unfold insEL; rw [e1, e2, hlen]
  exact ⟨e3, e4, fun y => by rw [insTo_mem2, insTo_mem2, e3, hm y], by rw [insTo_length2, insTo_length2, e3, hlen]⟩
theorem Up.at {o : List Int} {A : List (List Int)} (h : Up o A) {j : Nat} (h1 : 0 < j) (hj : j < A.length) : cmpA o (A.getD (j - 1) []) (A.getD j []) < 0 := by
  have e1 : A.getD (j - 1) [] = A[j - 1] := by simp [List.getD, List.getElem?_eq_getElem (show j - 1 < A.length by omega)]
  have e2 : A.getD j [] = A[j] := by simp [List.getD, List.getElem?_eq_getElem hj]
  rw [e1, e2]
  exact List.pairwise_iff_getElem.1 h.1 (j - 1) j (by omega) hj (by omega)

theorem RowsIn.ints {W : World} {a : Option Addr} {f : Nat → Value} {xs : List (List Int)} (h : RowsIn W a f xs) {wr : World} (hb : Below W.heap.size W wr) {j : Nat} (hj : j < xs.length) : Ints wr.heap.size wr (f j) (xs.getD j []) := by
  obtain ⟨_, _, _, _, h1, _⟩ := h wr hb j hj
  exact h1

def PairRel (W : World) (s1 h1 s2 h2 : Nat) (o1 o2 : List Int) (n : Nat) (i : Value) (wr : World) : Prop := ∃ k A B, k ≤ n ∧ i = .int .i64 ((k : Nat) : Int) ∧ Two W wr s1 h1 s2 h2 o1 o2 A B ∧ (∀ y, y ∈ A ↔ y ∈ B) ∧ A.length = B.length
def RunRel (w : World) (n : Nat) (i : Value) (wr : World) : Prop := ∃ k : Nat, k ≤ n ∧ i = .int .i64 k ∧ Below w.heap.size w wr

set_option maxRecDepth 100000 in
set_option maxHeartbeats 4000000 in
theorem orders_walk (W : World) (ov pv lv : Value) (o1 o2 : List Int) (xs : List (List Int)) (ho : Ints W.heap.size W ov o1) (hp : Ints W.heap.size W pv o2) (hl : ListAt (fun b => b < W.heap.size) W lv xs) (hB : ∀ x ∈ xs, Bnd x) :
    Calls Try.prog 5 #[ov, pv, lv] W fun e W' => e = .returned (.bool true) ∧ Below W.heap.size W W' := by
  obtain ⟨a, cap, f, rfl, hc1, hc2, hf⟩ := rowsIn hl hB
  have HF := hide hf
  clear hl hf hB
  obtain ⟨oa, oc, rfl, _⟩ := id ho
  obtain ⟨pa, pc, rfl, _⟩ := id hp
  have HO := hide ho
  have HP := hide hp
  clear ho hp
  cases hr : right o1 with
  | false =>
    have hn1 := new_no W _ o1 (unhide HO) hr
    clear hr
    go_enter Try.func5, Try.ntmps5
    go_wp2_with fail
    refine hn1.mono ?_
    clear hn1
    rintro e w1 ⟨rfl, b1⟩
    have hn2 := new_any w1 _ o2 (((unhide HP).below b1 (Nat.le_refl _)).mono b1.size)
    have HB1 := hide b1
    clear b1
    go_wp2_with fail
    refine hn2.mono ?_
    clear hn2
    rintro e w2 ⟨p2, er2, rfl, b2⟩
    have hal := alive_any w2
    have HB2 := hide ((unhide HB1).trans (b2.mono (unhide HB1).size))
    clear b2
    go_wp2_with fail
    refine hal.mono ?_
    clear hal
    rintro e w3 ⟨rfl, b3⟩
    go_wp2_with fail
    go_ret
    exact ⟨rfl, (unhide HB2).trans (b3.mono (unhide HB2).size)⟩
  | true =>
  have hn1 := new_T2 W _ o1 (unhide HO) hr
  have HR1 := hide hr
  clear hr
  cases hr : right o2 with
  | false =>
    go_enter Try.func5, Try.ntmps5
    go_wp2_with fail
    refine hn1.mono ?_
    clear hn1
    rintro e w1 ⟨s1, rfl, _, b1⟩
    have hn2 := new_no w1 _ o2 (((unhide HP).below b1 (Nat.le_refl _)).mono b1.size) hr
    have HB1 := hide b1
    clear b1 hr
    go_wp2_with fail
    refine hn2.mono ?_
    clear hn2
    rintro e w2 ⟨rfl, b2⟩
    have hal := alive_any w2
    have HB2 := hide ((unhide HB1).trans (b2.mono (unhide HB1).size))
    clear b2
    go_wp2_with fail
    refine hal.mono ?_
    clear hal
    rintro e w3 ⟨rfl, b3⟩
    go_wp2_with fail
    go_ret
    exact ⟨rfl, (unhide HB2).trans (b3.mono (unhide HB2).size)⟩
  | true =>
  have HR2 := hide hr
  clear hr
  go_enter Try.func5, Try.ntmps5
  go_wp2_with fail
  refine hn1.mono ?_
  clear hn1
  rintro e w1 ⟨s1, rfl, ⟨h1, hT1, l1⟩, b1⟩
  have hn2 := new_T2 w1 _ o2 (((unhide HP).below b1 (Nat.le_refl _)).mono b1.size) (unhide HR2)
  have HB1 := hide (And.intro hT1 (And.intro l1 b1))
  clear hT1 l1 b1
  go_wp2_with fail
  refine hn2.mono ?_
  clear hn2
  rintro e w2 ⟨s2, rfl, ⟨h2, hT2, l2⟩, b2⟩
  have hTwo := Two.made (unhide HB1).1 (unhide HB1).2.1 (unhide HB1).2.2 hT2 l2 b2
  have hal := alive_any w2
  have HT := hide hTwo
  clear hTwo hT2 l2 b2 HB1
  by_cases hlen : o1.length = o2.length
  case neg =>
    have hne : ((o1.length : Int) != (o2.length : Int)) = true := by rw [bne_iff_ne]; omega
    clear hlen
    go_wp2_with fail
    refine hal.mono ?_
    clear hal
    rintro e w3 ⟨rfl, b3⟩
    go_wp2_with fail
    go_ret
    exact ⟨rfl, ((unhide HT).later b3).bel⟩
  case pos =>
  have hne : ((o1.length : Int) != (o2.length : Int)) = false := by rw [bne_eq_false_iff_eq]; omega
  have HLEN := hide hlen
  clear hlen
  by_cases h2000 : 2000 < xs.length
  · have hg : (2000 : Int) < (xs.length : Int) := by omega
    go_wp2_with fail
    refine hal.mono ?_
    clear hal
    rintro e w3 ⟨rfl, b3⟩
    go_wp2_with fail
    go_ret
    exact ⟨rfl, ((unhide HT).later b3).bel⟩
  · have hg : ¬ ((2000 : Int) < (xs.length : Int)) := by omega
    go_wp2_with fail
    refine hal.mono ?_
    clear hal
    rintro e w3 ⟨rfl, b3⟩
    have HT3 := hide ((unhide HT).later b3)
    clear b3 HT
    go_wp2_with fail
    go_loopw [55] (fun i wr => PairRel W s1 h1 s2 h2 o1 o2 xs.length i wr) (fun i _ => xs.length - (intOf i).toNat)
    case atStart => exact ⟨0, [], [], Nat.zero_le _, rfl, unhide HT3, fun y => Iff.rfl, rfl⟩
    case round =>
      obtain ⟨k, A, B, hk, rfl, hTw, hmem, hAB⟩ := hrel
      by_cases hlt : k < xs.length
      · obtain ⟨b, off, rfl, hc, hx, hxB⟩ := unhide HF wr hTw.bel k hlt
        obtain ⟨x, hxe⟩ : ∃ x, x = xs.getD k [] := ⟨_, rfl⟩
        rw [← hxe] at hx hxB
        have HXE := hide hxe
        clear hxe
        have hi1 := hTw.ins1 hx hxB
        obtain ⟨e1, e2, e3, e4⟩ := same_ins (x := x) (unhide HLEN) hmem hAB
        have HE := hide (And.intro e1 (And.intro e2 (And.intro e3 e4)))
        obtain ⟨xa, xc, ex, _⟩ := id hx
        rw [ex] at hc hi1
        have HEX := hide ex
        obtain ⟨bb, hbb⟩ : ∃ bb, bb = insBL o1 x A := ⟨_, rfl⟩
        obtain ⟨ee, hee⟩ : ∃ ee, ee = insEL o1 x A := ⟨_, rfl⟩
        rw [← hbb, ← hee] at hi1
        have HBB := hide (And.intro hbb hee)
        clear hTw hx ex e1 e2 e3 e4 hbb hee hmem hAB
        go_wp2_with fail
        refine hi1.mono ?_
        clear hi1
        rintro e w4 ⟨rfl, hT4⟩
        have hx4 := (unhide HF).ints hT4.bel hlt
        rw [← unhide HXE] at hx4
        have hi2 := hT4.ins2 hx4 hxB
        rw [(unhide HE).1, (unhide HE).2.1, ← (unhide HBB).1, ← (unhide HBB).2, unhide HEX] at hi2
        clear hx4 hT4
        go_wp2_with fail
        refine hi2.mono ?_
        clear hi2
        rintro e w5 ⟨rfl, hT5⟩
        have HT5 := hide hT5
        clear hT5
        go_wp2_with fail
        go_roundw
        case rel => exact ⟨k + 1, _, _, by omega, by go_num, unhide HT5, (unhide HE).2.2.1, (unhide HE).2.2.2⟩
        case measure => simp [intOf]; omega
      · have hk2 : k = xs.length := by omega
        subst hk2
        have hup := hTw.a.up
        have ha1 := all_T _ wr s1 h1 o1 _ hTw.a
        have HTW := hide hTw
        have HMEM := hide hmem
        have HAB := hide hAB
        have HUP := hide hup
        clear hTw hmem hAB hup
        go_wp2_with fail
        refine ha1.mono ?_
        clear ha1
        rintro e w7 ⟨lb7, its7, rfl, hg7, he7, hn7, b7⟩
        have HT7 := hide ((unhide HTW).later b7)
        have hl7 := list_G w7 _ lb7 its7 _ _ hg7 eg_all hn7 he7
        clear b7 hg7 he7 hn7
        go_wp2_with fail
        refine hl7.mono ?_
        clear hl7
        rintro e w8 ⟨rv8, rfl, hL8, b8⟩
        have HT8 := hide ((unhide HT7).later b8)
        obtain ⟨ra, rc, g, er8, hr1, hr2, hg⟩ := rowsIn (W := w8) (hL8.mono (fun _ h _ => h)) (unhide HUP).2.2.2
        subst er8
        have HG := hide hg
        clear hL8 b8 hg
        have hA1 : A.length ≤ 1024 := (unhide HUP).2.2.1
        go_wp2_with fail
        go_loopw [85] (fun i wr => RunRel w8 A.length i wr) (fun i _ => A.length - (intOf i).toNat)
        case atStart => exact ⟨0, Nat.zero_le _, rfl, Below.refl _ _⟩
        case round =>
          obtain ⟨k, hk, rfl, hbr⟩ := hrel
          have HBR := hide hbr
          by_cases hlt : k < A.length
          · obtain ⟨b, off, rfl, hc, hx, _⟩ := unhide HG _ hbr k hlt
            obtain ⟨x, hxe⟩ : ∃ x, x = A.getD k [] := ⟨_, rfl⟩
            rw [← hxe] at hx
            have hxA : x ∈ A := by
              rw [hxe, List.getD, List.getElem?_eq_getElem hlt]
              exact List.getElem_mem hlt
            have HXE := hide hxe
            have hTr := (unhide HT8).later hbr
            have hh := has_T _ _ s2 h2 o2 x B _ hTr.b hx
            have hB1 : (fitB o2 x && B.contains x) = true := by
              rw [Bool.and_eq_true, fitB_true, List.contains_iff_mem]
              exact ⟨by rw [(unhide HUP).2.1 x hxA]; exact unhide HLEN, (unhide HMEM x).1 hxA⟩
            rw [hB1] at hh
            obtain ⟨xa, xc, ex, _⟩ := id hx
            rw [ex] at hc hh
            have HEX := hide ex
            clear hx hxe hxA hTr hB1 ex hbr
            by_cases hk0 : (0 : Int) < (k : Int)
            · go_wp2_with fail
              refine hh.mono ?_
              clear hh
              rintro e w9 ⟨rfl, b9⟩
              have b89 := (unhide HBR).trans (b9.mono (unhide HBR).size)
              have b09 := (unhide HT8).bel.trans (b89.mono (unhide HT8).bel.size)
              obtain ⟨b', off', e', hc2, hy, _⟩ := unhide HG w9 b89 (k - 1) (by omega)
              cases e'
              have hx9 := (unhide HG).ints b89 hlt
              obtain ⟨y, hye⟩ : ∃ y, y = A.getD (k - 1) [] := ⟨_, rfl⟩
              have hlt0 := (unhide HUP).at (j := k) (by omega) hlt
              rw [← hye] at hy hlt0
              rw [← unhide HXE] at hx9 hlt0
              have hcm := rcmp_any w9.heap.size w9 _ _ _ o1 y x (Nat.le_refl _) (((unhide HO).below b09 (Nat.le_refl _)).mono b09.size) hy hx9
              obtain ⟨c, hce⟩ : ∃ c, c = cmpA o1 y x := ⟨_, rfl⟩
              rw [← hce] at hcm hlt0
              have hc0 : ¬ (0 ≤ c) := by omega
              obtain ⟨ya, yc, ey, _⟩ := id hy
              rw [ey, unhide HEX] at hcm
              rw [ey] at hc2
              have hc3 := hc2
              rw [← show ((k : Int) - 1).toNat = k - 1 by omega] at hc3
              have HB9 := hide b89
              clear b9 b89 b09 hye hx9 hy ey hce
              go_wp2_with fail
              refine hcm.mono ?_
              clear hcm
              rintro e w10 ⟨rfl, b10⟩
              have HB10 := hide b10
              clear b10
              go_wp2_with fail
              go_roundw
              case rel => exact ⟨k + 1, by omega, by go_num, (unhide HB9).trans ((unhide HB10).mono (unhide HB9).size)⟩
              case measure => simp [intOf]; omega
            · go_wp2_with fail
              refine hh.mono ?_
              clear hh
              rintro e w9 ⟨rfl, b9⟩
              have HB9 := hide b9
              clear b9
              go_wp2_with fail
              go_roundw
              case rel => exact ⟨k + 1, by omega, by go_num, (unhide HBR).trans ((unhide HB9).mono (unhide HBR).size)⟩
              case measure => simp [intOf]; omega
          · have hk2 : k = A.length := by omega
            subst hk2
            have hTr := (unhide HT8).later hbr
            have hl1 := len_T _ _ s1 h1 o1 A hTr.a
            have HTR := hide hTr
            clear hbr hTr
            go_wp2_with fail
            refine hl1.mono ?_
            clear hl1
            rintro e w9 ⟨rfl, b9⟩
            have hT9 := (unhide HTR).later b9
            have hl2 := len_T _ _ s2 h2 o2 B hT9.b
            rw [← unhide HAB] at hl2
            have HT9 := hide hT9
            clear b9 hT9
            go_wp2_with fail
            refine hl2.mono ?_
            clear hl2
            rintro e w10 ⟨rfl, b10⟩
            have hT10 := (unhide HT9).later b10
            have hl3 := len_T _ _ s1 h1 o1 A hT10.a
            have HT10 := hide hT10
            clear b10 hT10
            go_wp2_with fail
            refine hl3.mono ?_
            clear hl3
            rintro e w11 ⟨rfl, b11⟩
            have HB11 := hide ((unhide HT10).later b11).bel
            clear b11
            go_wp2_with fail
            go_ret
            exact ⟨rfl, unhide HB11⟩
end Go.Proofs.Ytmjlhmhkbfnccaa
