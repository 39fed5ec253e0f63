/- BtreeRanges: the walk. -/
import Derived.Test.YtmjlhmhkbfnccaaOrdersW
import Derived.Test.YtmjlhmhkbfnccaaRangesP
namespace Go.Proofs.Ytmjlhmhkbfnccaa
open Go.RowKit Go.Shelf

/-- One set. -/
structure Solo (W w : World) (s h : Nat) (o : List Int) (xs : List (List Int)) : Prop where
  t : SetT (fun b => b ≠ h) w s h o xs
  l : W.heap.size ≤ h
  bel : Below W.heap.size W w
theorem Solo.later {W w w' : World} {s h : Nat} {o : List Int} {xs : List (List Int)} (hs : Solo W w s h o xs) (hb : Below w.heap.size w w') : Solo W w' s h o xs := ⟨hs.t.later hb, hs.l, hs.bel.trans (hb.mono hs.bel.size)⟩
theorem Solo.new {W w : World} {s h : Nat} {o : List Int} {xs : List (List Int)} (hs : Solo W w s h o xs) : NewIn (fun b => b ≠ h) w := fun b hb => by have := hs.t.lt; show b ≠ h; omega
theorem Solo.ins {W w : World} {s h : Nat} {o : List Int} {xs : List (List Int)} (hs : Solo W w s h o xs) {xv : Value} {x : List Int} (hx : Ints w.heap.size w xv x) (hB : Bnd x) :
    Calls Try.prog 14 #[.pointer (some ⟨s, 0, none⟩), xv] w fun e w' => e = .returned (.tuple #[.bool (insBL o x xs), .int .i64 (insEL o x xs)]) ∧ Solo W w' s h o (insTo o x xs) := by
  refine (insert_T _ w s h o x xs xv hs.t hx hB hs.new).mono ?_
  rintro e w' ⟨rfl, h2, h3⟩
  exact ⟨rfl, h2, hs.l, hs.bel.trans (h3.below hs.bel.size (fun b hb => by have := hs.l; omega))⟩
theorem ListAt.cut {B : Nat → Prop} {w : World} {a : Option Addr} {cap : Nat} {xs : List (List Int)} (h : ListAt B w (.slice a xs.length cap) xs) {k : Nat} (hk : k ≤ xs.length) : ListAt B w (.slice a k cap) (xs.take k) := by
  obtain ⟨f, h1, h2⟩ := h
  have e : (xs.take k).length = k := by simp; omega
  refine ⟨f, by rw [e]; exact h1.cut hk, fun j hj => ?_⟩
  rw [e] at hj
  have e2 : (xs.take k).getD j [] = xs.getD j [] := by simp [List.getD, hj]
  rw [e2]
  exact h2 j (by omega)

def SoloRel (W : World) (s h : Nat) (o : List Int) (n : Nat) (i : Value) (wr : World) : Prop := ∃ (k : Nat) (A : List (List Int)), k ≤ n ∧ i = .int .i64 (k : Int) ∧ Solo W wr s h o A

set_option maxRecDepth 100000 in
set_option maxHeartbeats 4000000 in
theorem ranges_walk (W : World) (ov lv : Value) (o : List Int) (xs : List (List Int)) (kk : Int) (ho : Ints W.heap.size W ov o) (hl : ListAt (fun b => b < W.heap.size) W lv xs) (hB : ∀ x ∈ xs, Bnd x) :
    Calls Try.prog 6 #[ov, lv, .int .i64 kk] W fun e W' => e = .returned (.bool true) ∧ Below W.heap.size W W' := by
  obtain ⟨a, cap, f, rfl, hc1, hc2, hf⟩ := rowsIn hl hB
  have HF := hide hf
  clear hl hf hB
  obtain ⟨oa, oc, rfl, _⟩ := id ho
  have HO := hide ho
  clear ho
  cases hr : right o with
  | false =>
    have hn1 := new_no W _ o (unhide HO) hr
    clear hr
    go_enter Try.func6, Try.ntmps6
    go_wp2_with fail
    refine hn1.mono ?_
    clear hn1
    rintro e w1 ⟨rfl, b1⟩
    have hal := alive_any w1
    have HB1 := hide b1
    clear b1
    go_wp2_with fail
    refine hal.mono ?_
    clear hal
    rintro e w3 ⟨rfl, b3⟩
    go_wp2_with fail
    go_ret
    exact ⟨rfl, (unhide HB1).trans (b3.mono (unhide HB1).size)⟩
  | true =>
  have hn1 := new_T W _ o (unhide HO) hr
  have h8 := (right_in hr).1
  have HR := hide hr
  clear hr
  go_enter Try.func6, Try.ntmps6
  go_wp2_with fail
  refine hn1.mono ?_
  clear hn1
  rintro e w1 ⟨s, rfl, ⟨h, hT1, l1⟩, b1⟩
  have HT := hide (Solo.mk hT1 l1 b1)
  have hal := alive_any w1
  clear hT1 l1 b1
  by_cases h300 : 300 < xs.length
  · have hg : (300 : Int) < (xs.length : Int) := by omega
    go_wp2_with fail
    refine hal.mono ?_
    clear hal
    rintro e w3 ⟨rfl, b3⟩
    go_wp2_with fail
    go_ret
    exact ⟨rfl, ((unhide HT).later b3).bel⟩
  have hg : ¬ ((300 : Int) < (xs.length : Int)) := by omega
  go_wp2_with fail
  refine hal.mono ?_
  clear hal
  rintro e w3 ⟨rfl, b3⟩
  have HT3 := hide ((unhide HT).later b3)
  clear b3 HT
  go_wp2_with fail
  go_loopw [35] (fun i wr => SoloRel W s h o xs.length i wr) (fun i _ => xs.length - (intOf i).toNat)
  case atStart => exact ⟨0, [], Nat.zero_le _, rfl, unhide HT3⟩
  case round =>
    obtain ⟨k, A, hk, rfl, hTw⟩ := hrel
    by_cases hlt : k < xs.length
    · obtain ⟨b, off, rfl, hc, hx, hxB⟩ := unhide HF wr hTw.bel k hlt
      obtain ⟨x, hxe⟩ : ∃ x, x = xs.getD k [] := ⟨_, rfl⟩
      rw [← hxe] at hx hxB
      clear hxe
      have hi1 := hTw.ins hx hxB
      obtain ⟨xa, xc, ex, _⟩ := id hx
      rw [ex] at hc hi1
      clear hTw hx ex
      go_wp2_with fail
      refine hi1.mono ?_
      clear hi1
      rintro e w5 ⟨rfl, hT5⟩
      have HT5 := hide hT5
      clear hT5
      go_wp2_with fail
      go_roundw
      case rel => exact ⟨k + 1, _, by omega, by go_num, unhide HT5⟩
      case measure => simp [intOf]; omega
    have hk2 : k = xs.length := by omega
    subst hk2
    have HUP := hide hTw.t.up
    have ha1 := all_T _ wr s h o _ hTw.t
    have HTW := hide hTw
    have hA1 : A.length ≤ 1024 := (unhide HUP).2.2.1
    clear hTw
    go_wp2_with fail
    refine ha1.mono ?_
    clear ha1
    rintro e w7 ⟨lb7, its7, rfl, hg7, he7, hn7, b7⟩
    have HT7 := hide ((unhide HTW).later b7)
    have hl7 := list_G w7 _ lb7 its7 _ _ hg7 eg_all hn7 he7
    clear b7 hg7 he7 hn7
    go_wp2_with fail
    refine hl7.mono ?_
    clear hl7
    rintro e w8 ⟨rv8, rfl, hL8, b8⟩
    have HT8 := hide ((unhide HT7).later b8)
    obtain ⟨ra, rc, g, er8, hr1, hr2, hgr⟩ := rowsIn (W := w8) (hL8.mono (fun _ h _ => h)) (unhide HUP).2.2.2
    subst er8
    have HG := hide (And.intro hgr hL8)
    clear hL8 b8 hgr
    obtain ⟨Z, hZ, hmk⟩ := zeros_run o.length h8
    have bz : Below w8.heap.size w8 (w8.alloc (.cells Z 3)) := alloc_below _ _
    have hrg := range_T _ _ s h o (List.replicate o.length 0) 0 A _ ((unhide HT8).later bz).t (zeros_own hZ h8 w8).ints (by simp; omega) ((unhide HT8).later bz).new
    rw [filter_none (unhide HR) (unhide HUP)] at hrg
    have HZ := hide bz
    clear hZ bz
    go_wp2_with fail
    refine hrg.mono ?_
    clear hrg
    rintro e w9 ⟨lb9, its9, rfl, hg9, he9, hn9, b9⟩
    have b89 := (unhide HZ).trans (b9.mono (unhide HZ).size)
    have HB9 := hide b89
    have hl9 := list_G w9 _ lb9 its9 _ _ hg9 eg_range hn9 he9
    clear b9 b89 hg9 he9 hn9
    go_wp2_with fail
    refine hl9.mono ?_
    clear hl9
    rintro e w10 ⟨rv10, rfl, hL10, b10⟩
    have b810 := (unhide HB9).trans (b10.mono (unhide HB9).size)
    obtain ⟨f10, ⟨ra10, rc10, er10, _⟩, _⟩ := id hL10
    subst er10
    have hs := rsame_any (fun _ => True) w10 _ _ _ _ (hL10.mono (fun _ _ _ => trivial)) (((unhide HG).2.later b810).mono (fun _ _ _ => trivial))
    have HB10 := hide b810
    clear hL10 b10 b810
    go_wp2_with fail
    refine hs.mono ?_
    clear hs
    rintro e w11 ⟨rfl, b11⟩
    have HB11 := hide ((unhide HB10).trans (b11.mono (unhide HB10).size))
    have e11 : sameLB A A = true := by simp [sameLB]
    rw [e11]
    clear b11 e11
    go_wp2_with fail
    go_loopw [57] (fun i wr => RunRel w8 A.length i wr) (fun i _ => A.length - (intOf i).toNat)
    case atStart => exact ⟨0, Nat.zero_le _, rfl, unhide HB11⟩
    case round =>
      obtain ⟨k, hk, rfl, hbr⟩ := hrel
      have HBR := hide hbr
      by_cases hlt : k < A.length
      · obtain ⟨b, off, rfl, hc, hx, _⟩ := unhide (hide (unhide HG).1) _ hbr k hlt
        obtain ⟨x, hxe⟩ : ∃ x, x = A.getD k [] := ⟨_, rfl⟩
        rw [← hxe] at hx
        have hxA : x ∈ A := by
          rw [hxe, List.getD, List.getElem?_eq_getElem hlt]
          exact List.getElem_mem hlt
        have hTr := (unhide HT8).later hbr
        have hx8 : x.length * 8 ≤ 140737488355328 := by have := (unhide HUP).2.1 x hxA; omega
        have hrg := range_T _ _ s h o x kk A _ hTr.t hx hx8 hTr.new
        obtain ⟨r, hre⟩ : ∃ r, r = A.filter (fun z => headA o kk z x) := ⟨_, rfl⟩
        obtain ⟨y, hye⟩ : ∃ y, y = r.getD 0 [] := ⟨_, rfl⟩
        obtain ⟨ff, hfe⟩ : ∃ ff, ff = fromL o y A := ⟨_, rfl⟩
        have HPU := hide (ranges_pure (unhide HR) (unhide HUP) hxA hre hye hfe)
        have hrB : ∀ z ∈ r, Bnd z := fun z hz => (unhide HUP).2.2.2 z (List.mem_filter.1 (by rw [← hre]; exact hz)).1
        rw [← hre] at hrg
        have HEQ := hide (And.intro hxe (And.intro hye (And.intro hfe hrB)))
        obtain ⟨xa, xc, ex, _⟩ := id hx
        rw [ex] at hc hrg
        have HEX := hide ex
        clear hx hxe hxA hTr hre hye hfe hrB ex hbr hx8
        go_wp2_with fail
        refine hrg.mono ?_
        clear hrg
        rintro e w12 ⟨lb12, its12, rfl, hg12, he12, hn12, b12⟩
        have HB12 := hide ((unhide HBR).trans (b12.mono (unhide HBR).size))
        have hl12 := list_G w12 _ lb12 its12 _ _ hg12 eg_range hn12 he12
        clear b12 hg12 he12 hn12
        go_wp2_with fail
        refine hl12.mono ?_
        clear hl12
        rintro e w13 ⟨rv13, rfl, hL13, b13⟩
        have b813 := (unhide HB12).trans (b13.mono (unhide HB12).size)
        obtain ⟨ra13, rc13, g13, er13, hr13, hr13', hg13⟩ := rowsIn (W := w13) (hL13.mono (fun _ h _ => h)) (unhide HEQ).2.2.2
        subst er13
        obtain ⟨hp0, hp1, hp2, hp3, hp4⟩ := unhide HPU
        have hz0 : ((r.length : Int) == 0) = false := by rw [beq_eq_false_iff_ne]; omega
        obtain ⟨b', off', e', hc13, hy, _⟩ := hg13 w13 (Below.refl _ _) 0 hp0
        subst e'
        rw [← (unhide HEQ).2.1] at hy
        have hT13 := (unhide HT8).later b813
        have hy8 : y.length * 8 ≤ 140737488355328 := by omega
        have hfr := from_T _ w13 s h o y A _ hT13.t hy hy8 hT13.new
        rw [← (unhide HEQ).2.2.1] at hfr
        obtain ⟨ya, yc, ey, _⟩ := id hy
        rw [ey] at hc13 hfr
        rw [Nat.add_zero] at hc13
        have HL13 := hide hL13
        have HB13 := hide b813
        have HP4 := hide (And.intro hp3 hp4)
        have hl0 : 0 < r.length := hp0
        clear b13 b813 hg13 hy ey hT13 hy8 hL13 hp0 hp1 hp3 hp4 HPU
        go_wp2_with fail
        refine hfr.mono ?_
        clear hfr
        rintro e w14 ⟨lb14, its14, rfl, hg14, he14, hn14, b14⟩
        have HB14 := hide ((unhide HB13).trans (b14.mono (unhide HB13).size))
        have HL14 := hide ((unhide HL13).later b14)
        have hl14 := list_G w14 _ lb14 its14 _ _ hg14 eg_from hn14 he14
        clear b14 hg14 he14 hn14
        go_wp2_with fail
        refine hl14.mono ?_
        clear hl14
        rintro e w15 ⟨rv15, rfl, hL15, b15⟩
        have b815 := (unhide HB14).trans (b15.mono (unhide HB14).size)
        have hffB : ∀ z ∈ ff, Bnd z := fun z hz => by
          rw [(unhide HEQ).2.2.1] at hz
          unfold fromL at hz
          split at hz
          · exact (unhide HUP).2.2.2 z (List.mem_filter.1 hz).1
          · cases hz
        obtain ⟨ra15, rc15, g15, er15, hr15, hr15', hg15⟩ := rowsIn (W := w15) (hL15.mono (fun _ h _ => h)) hffB
        subst er15
        have hcut := hL15.cut hp2
        rw [(unhide HP4).1] at hcut
        have hs := rsame_any (fun _ => True) w15 _ _ _ _ (hcut.mono (fun _ _ _ => trivial)) (((unhide HL14).later b15).mono (fun _ _ _ => trivial))
        have e16 : sameLB r r = true := by simp [sameLB]
        rw [e16] at hs
        have HG15 := hide hg15
        have HB15 := hide b815
        have hnl : ¬ ((ff.length : Int) < (r.length : Int)) := by omega
        clear b15 b815 hffB hL15 hcut hg15 e16
        by_cases hgt : (r.length : Int) < (ff.length : Int)
        · go_wp2_with fail
          refine hs.mono ?_
          clear hs
          rintro e w16 ⟨rfl, b16⟩
          have b816 := (unhide HB15).trans (b16.mono (unhide HB15).size)
          obtain ⟨b3, off3, e3, hc16, hz16, _⟩ := unhide HG15 w16 b16 r.length (by omega)
          subst e3
          have hf16 := (unhide HP4).2 (by omega)
          obtain ⟨z, hze⟩ : ∃ z, z = ff.getD r.length [] := ⟨_, rfl⟩
          rw [← hze] at hz16 hf16
          have hx16 := (unhide HG).1.ints b816 hlt
          rw [← (unhide HEQ).1] at hx16
          have b016 := (unhide HT8).bel.trans (b816.mono (unhide HT8).bel.size)
          have hhd := rhead_any w16.heap.size w16 _ _ _ o z x kk (Nat.le_refl _) (((unhide HO).below b016 (Nat.le_refl _)).mono b016.size) hz16 hx16
          rw [hf16] at hhd
          obtain ⟨za, zc, ez, _⟩ := id hz16
          rw [ez, unhide HEX] at hhd
          rw [ez] at hc16
          have HB16 := hide b816
          clear b16 b816 b016 hf16 hze hz16 hx16 ez
          go_wp2_with fail
          refine hhd.mono ?_
          clear hhd
          rintro e w17 ⟨rfl, b17⟩
          have HB17 := hide ((unhide HB16).trans (b17.mono (unhide HB16).size))
          clear b17
          go_wp2_with fail
          go_roundw
          case rel => exact ⟨k + 1, by omega, by go_num, unhide HB17⟩
          case measure => simp [intOf]; omega
        · go_wp2_with fail
          refine hs.mono ?_
          clear hs
          rintro e w16 ⟨rfl, b16⟩
          have HB16 := hide ((unhide HB15).trans (b16.mono (unhide HB15).size))
          clear b16
          go_wp2_with fail
          go_roundw
          case rel => exact ⟨k + 1, by omega, by go_num, unhide HB16⟩
          case measure => simp [intOf]; omega
      · have hk2 : k = A.length := by omega
        subst hk2
        have HB := hide ((unhide HT8).later hbr).bel
        clear hbr
        go_wp2_with fail
        go_ret
        exact ⟨rfl, unhide HB⟩
end Go.Proofs.Ytmjlhmhkbfnccaa
