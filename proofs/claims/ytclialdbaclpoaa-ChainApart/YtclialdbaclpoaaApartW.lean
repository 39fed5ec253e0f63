/- The walk of ChainApart. -/
import Derived.Test.YtclialdbaclpoaaApartP
namespace Go.Proofs.Ytclialdbaclpoaa
open Go.RowKit Go.Shelf Go.Maps

theorem and_one (q : Nat) (h : q < 4611686018427387904) : bits .and .i64 (q : Int) 1 = ((q % 2 : Nat) : Int) := by
  show IntKind.i64.wrap ((BitVec.ofInt 64 (q : Int) &&& BitVec.ofInt 64 1).toNat : Int) = _
  rw [BitVec.toNat_and, ofInt_u64 _ (by omega), show (BitVec.ofInt 64 1).toNat = 1 from rfl, Nat.and_one_is_mod, IntKind.wrap_i64]
  omega
/-- Bytes. -/
def BytesS (S : Nat → Prop) (w : World) (v : Value) (l : List Int) : Prop := Row S w v l.length (fun j => .int .u8 (l.getD j 0))
theorem popTo_le (n : Nat) : ∀ i, popTo n i ≤ i
  | 0 => Nat.le_refl _
  | i + 1 => by
    have := popTo_le n i
    unfold popTo
    omega
def ApR (k : Nat) (B : Nat) (w : World) (lv i : Value) (wr : World) : Prop := ∃ n : Nat, n ≤ 256 ∧ i = .int .i64 (n : Int) ∧ OwnI B wr lv (apL k n) ∧ Below B w wr
def PcR (n : Nat) (cv i : Value) : Prop := ∃ j : Nat, j ≤ 8 ∧ i = .int .i64 (j : Int) ∧ cv = .int .i64 (popTo n j : Int)
def RoR (cs : List Int) (M : Nat) (B : Nat) (w : World) (rv sv i : Value) (wr : World) : Prop := ∃ j : Nat, j ≤ M ∧ i = .int .i64 (j : Int) ∧ sv = .int .i64 (setTo cs j : Int) ∧ OwnI B wr rv (rowTo cs j) ∧ Below B w wr

set_option maxRecDepth 100000 in
set_option maxHeartbeats 8000000 in
theorem apart_walk (w : World) (size : Int) (v : Value) (cs : List Int) (hsz : 0 ≤ size ∧ size < 256) (h : BytesS (fun b => b < w.heap.size) w v cs) (hb : ∀ x ∈ cs, 0 ≤ x ∧ x < 256) :
    Calls Try.prog 6 #[.int .u8 size, v] w fun e w' => e = .returned (.bool true) ∧ Below w.heap.size w w' := by
  obtain ⟨va, vc, ev, hc1, hc2, hcell⟩ := h
  subst ev
  have HC := hide hcell
  have HBB := hide hb
  clear hcell hb
  obtain ⟨s, rfl⟩ : ∃ s : Nat, size = (s : Int) := ⟨size.toNat, by omega⟩
  obtain ⟨k, hk⟩ : ∃ k, k = s % 7 + 1 := ⟨_, rfl⟩
  have hk1 : 1 ≤ k := by omega
  have hk7 : k ≤ 7 := by omega
  have HS : Hid (ApR k w.heap.size w (.slice none 0 0) (.int .i64 0) w) := ⟨0, Nat.zero_le _, rfl, OwnI.nil _ _, Below.refl _ _⟩
  go_enter Try.func6, Try.ntmps6
  have hke : (s : Int) % 7 + 1 = (k : Int) := by omega
  clear hk
  go_wp2_with fail
  clear hke
  go_loopw [6, 22] (fun lv i wr => ApR k w.heap.size w lv i wr) (fun _ i _ => 256 - (intOf i).toNat)
  case atStart => exact unhide HS
  case round =>
    rename World => Wo
    obtain ⟨n, hn, rfl, hown, hbl⟩ := hrel
    obtain ⟨la, ln, lc, el, hln⟩ : ∃ la ln lc, u6 = .slice la ln lc ∧ ln = (apL k n).length := by
      rcases hown.2 with ⟨e, e2⟩ | ⟨g, cap, cur, e, _⟩
      · exact ⟨_, _, _, e, e2.symm⟩
      · exact ⟨_, _, _, e, rfl⟩
    have hap := (apL_all k n).2.2
    by_cases hn2 : n < 256
    · have HP : Hid (PcR n (.int .i64 0) (.int .i64 0)) := ⟨0, Nat.zero_le _, rfl, rfl⟩
      have HI := hide (And.intro hown hbl)
      have HLN := hide hln
      have hn3 : (n : Int) < 256 := by omega
      have hln40 : ln ≤ 40 := by omega
      subst el
      clear hown hbl hln hap
      go_wp2_with fail
      go_loop [9, 25] (fun cv i => PcR n cv i) (fun _ i => 8 - (intOf i).toNat)
      case atStart => exact unhide HP
      case round =>
        obtain ⟨j, hj, rfl, rfl⟩ := hrel
        by_cases hj8 : j < 8
        · have e1 : ((n : Int) / 2 ^ j) = ((n / 2 ^ j : Nat) : Int) := by
            rw [show ((2 : Int) ^ j) = ((2 ^ j : Nat) : Int) by simp, ← Int.natCast_ediv]
          have hq : n / 2 ^ j ≤ n := Nat.div_le_self _ _
          have e2 := and_one (n / 2 ^ j) (by omega)
          rw [← e1] at e2
          have hpl := popTo_le n j
          have HN : Hid (PcR n (.int .i64 ((popTo n j : Int) + ((n / 2 ^ j % 2 : Nat) : Int))) (.int .i64 ((j + 1 : Nat) : Int))) := ⟨j + 1, by omega, rfl, by show _ = Value.int .i64 ((popTo n j + n / 2 ^ j % 2 : Nat) : Int); rw [Int.natCast_add]⟩
          have hj9 : (j : Int) < 8 := by omega
          have hb2 : n / 2 ^ j % 2 < 2 := Nat.mod_lt _ (by omega)
          generalize n / 2 ^ j % 2 = bq at e2 HN hb2
          generalize popTo n j = pq at HN hpl
          clear e1 hq
          go_wp2_with fail
          go_round
          case rel =>
            have := unhide HN
            rw [Int.natCast_add] at this
            exact this
          case measure => simp [intOf]; omega
        · have hj9 : ¬ ((j : Int) < 8) := by omega
          have hj2 : j = 8 := by omega
          subst hj2
          obtain ⟨hown, hbl⟩ := unhide HI
          have hbs := hbl.size
          have hlnE := unhide HLN
          by_cases hc : popTo n 8 = k ∧ (apL k n).length < 40
          · obtain ⟨r7, w7, hrun7, hown7, hK7, hr7⟩ := app1_run Wo _ _ (n : Int) hown hbs (by omega)
            have b7 : Below w.heap.size w w7 := hbl.trans (hK7.below hbs (fun b e => (hown.block b e).1))
            have HN : Hid (ApR k w.heap.size w r7 (.int .i64 ((n + 1 : Nat) : Int)) w7) := ⟨n + 1, by omega, rfl, by show OwnI _ _ _ (if _ then _ else _); rw [if_pos hc]; exact hown7, b7⟩
            have HRUN7 := hide hrun7
            have q1 : ((popTo n 8 : Int) == (k : Int)) = true := by simp [hc.1]
            have q2 : (ln : Int) < 40 := by omega
            generalize popTo n 8 = p8 at q1
            clear hown hbl hlnE hrun7 hown7 hK7 hr7 b7 hc
            go_wp2_with (at_builtin; refine wpList_append_run _ rfl _ _ 22 rfl _ _ rfl rfl _ _ (unhide HRUN7) ?_)
            refine ⟨?_, ?_⟩
            · have := unhide HN
              rw [Int.natCast_add] at this
              exact this
            · simp [intOf]; omega
          · have HN : Hid (ApR k w.heap.size w (.slice la ln lc) (.int .i64 ((n + 1 : Nat) : Int)) Wo) := ⟨n + 1, by omega, rfl, by show OwnI _ _ _ (if _ then _ else _); rw [if_neg hc]; exact hown, hbl⟩
            by_cases hp : popTo n 8 = k
            · have q1 : ((popTo n 8 : Int) == (k : Int)) = true := by simp [hp]
              have q2 : ¬ ((ln : Int) < 40) := fun g => hc ⟨hp, by omega⟩
              generalize popTo n 8 = p8 at q1
              clear hown hbl hlnE hc hp
              go_wp2_with fail
              refine ⟨?_, ?_⟩
              · have := unhide HN
                rw [Int.natCast_add] at this
                exact this
              · simp [intOf]; omega
            · have q1 : ((popTo n 8 : Int) == (k : Int)) = false := by simp; omega
              generalize popTo n 8 = p8 at q1
              clear hown hbl hlnE hc hp
              go_wp2_with fail
              refine ⟨?_, ?_⟩
              · have := unhide HN
                rw [Int.natCast_add] at this
                exact this
              · simp [intOf]; omega
    · have hn2' : n = 256 := by omega
      subst hn2'
      have hn4 : ¬ ((256 : Int) < 256) := by omega
      have HI := hide (And.intro hown hbl)
      have HLN := hide hln
      have hln40 : ln ≤ 40 := by omega
      have hbs := hbl.size
      subst el
      clear hown hbl hln hap
      obtain ⟨M, hM⟩ : ∃ M : Nat, M = min cs.length 20 := ⟨_, rfl⟩
      have hM1 : M ≤ cs.length := by omega
      have hM2 : M ≤ 20 := by omega
      have hMe : min (cs.length : Int) 20 = (M : Int) := by omega
      have HSt : Hid (RoR cs M Wo.heap.size Wo (.slice none 0 0) (.int .i64 0) (.int .i64 0) Wo) := ⟨0, Nat.zero_le _, rfl, rfl, OwnI.nil _ _, Below.refl _ _⟩
      clear hM
      go_wp2_with fail
      go_loopw [7, 11, 54] (fun rv sv i wr => RoR cs M Wo.heap.size Wo rv sv i wr) (fun _ _ i _ => M - (intOf i).toNat)
      case atStart => exact unhide HSt
      case round =>
        obtain ⟨j, hj, rfl, rfl, hownR, hblR⟩ := hrel
        obtain ⟨qa, qn, qc, eq⟩ : ∃ a n c, u7 = .slice a n c := by
          rcases hownR.2 with ⟨e, _⟩ | ⟨g, cap, cur, e, _⟩
          · exact ⟨_, _, _, e⟩
          · exact ⟨_, _, _, e⟩
        obtain ⟨hownL, hblL⟩ := unhide HI
        have hbo := hblR.size
        have hlt8 := setTo_lt cs j
        by_cases hjM : j < M
        · obtain ⟨b, off, rfl, hbS, hc⟩ := unhide HC j (by omega)
          have b0r := hblL.trans (hblR.mono hbs)
          have hc2 := (b0r.cell (p := ⟨b, off + j, none⟩) hbS).trans hc
          obtain ⟨x, hx⟩ : ∃ x, x = cs.getD j 0 := ⟨_, rfl⟩
          have hxm : x ∈ cs := by
            rw [hx, List.getD, List.getElem?_eq_getElem (show j < cs.length by omega)]
            exact List.getElem_mem _
          have hxb := unhide HBB x hxm
          rw [← hx] at hc2
          obtain ⟨y, hy⟩ : ∃ y : Nat, y = x.toNat % 8 := ⟨_, rfl⟩
          have hy8 : y < 8 := by omega
          have hye : x % 8 = (y : Int) := by omega
          have hor := or_pow (setTo cs j) (y : Int) hlt8 (by omega) (by omega)
          rw [Int.toNat_natCast] at hor
          have hst : setTo cs (j + 1) = setTo cs j ||| 2 ^ y := by
            show setTo cs j ||| 2 ^ ((cs.getD j 0).toNat % 8) = _
            rw [← hx, ← hy]
          obtain ⟨r7, w7, hrun7, hown7, hK7, hr7⟩ := app1_run wr _ _ (setTo cs (j + 1) : Int) hownR hbo (by simp [rowTo]; omega)
          have b7 : Below Wo.heap.size Wo w7 := hblR.trans (hK7.below hbo (fun b e => (hownR.block b e).1))
          have HN : Hid (RoR cs M Wo.heap.size Wo r7 (.int .i64 (setTo cs (j + 1) : Int)) (.int .i64 ((j + 1 : Nat) : Int)) w7) := ⟨j + 1, by omega, rfl, rfl, by rw [rowTo_succ]; exact hown7, b7⟩
          rw [hst] at hrun7 HN
          have HRUN7 := hide hrun7
          generalize setTo cs j = m at hor HRUN7 HN hlt8
          subst eq
          have hjl : (j : Int) < (M : Int) := by omega
          have hx0 := hxb.1
          have hx2 := hxb.2
          clear hownR hblR hownL hblL b0r hc hx hxm hxb hy hst hrun7 hown7 hK7 hr7 b7
          go_wp2_with (at_builtin; refine wpList_append_run _ rfl _ _ 22 rfl _ _ rfl rfl _ _ (unhide HRUN7) ?_)
          go_roundw
          case rel =>
            have := unhide HN
            rw [Int.natCast_add] at this
            exact this
          case measure => simp [intOf]; omega
        · have hnj : ¬ ((j : Int) < (M : Int)) := by omega
          have hlr := hownL.keeps (O := fun _ => False) (Keeps.of_below hblR) (fun _ _ e => e)
          have hle := least_ok wr _ (apL k 256) hlr.intsS.ints (ap_look k)
          have b0r := hblL.trans (hblR.mono hbs)
          have HE := hide (And.intro hownR b0r)
          have hrn := hownR.lenOf
          generalize setTo cs j = m
          clear hownR hblR hownL hblL b0r hlr hlt8
          subst eq
          go_wp2_with fail
          refine hle.mono ?_
          clear hle
          rintro e w8 ⟨n1, rfl, hl1, b8⟩
          have hn1 := ap_least hk1 hk7 hl1
          have hlnE := unhide HLN
          have hnl : n1 = ln := by omega
          subst hnl
          obtain ⟨hownR, b0r⟩ := unhide HE
          have hr8 := hownR.keeps (O := fun _ => False) (Keeps.of_below b8) (fun _ _ e => e)
          have hle2 := least_ok w8 _ (rowTo cs j) hr8.intsS.ints (row_look cs j (by omega))
          have b08 := b0r.trans (b8.mono b0r.size)
          have HE8 := hide b08
          clear hl1 b8 hn1 hlnE hownR b0r hr8 b08 HLN
          go_wp2_with fail
          refine hle2.mono ?_
          clear hle2
          rintro e w9 ⟨n2, rfl, hl2, b9⟩
          have hn2 := row_least hl2
          subst hn2
          have hal := alive_any w9
          have HB9 := hide ((unhide HE8).trans (b9.mono (unhide HE8).size))
          clear hl2 b9
          go_wp2_with fail
          refine hal.mono ?_
          clear hal
          rintro e w10 ⟨rfl, b10⟩
          have HB10 := hide b10
          clear b10
          go_wp2_with fail
          go_ret
          exact ⟨rfl, (unhide HB9).trans ((unhide HB10).mono (unhide HB9).size)⟩
end Go.Proofs.Ytclialdbaclpoaa
