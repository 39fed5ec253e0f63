/- Walk of the document's Text: it answers the decimal numeral. -/
import Derived.Test.YtbcljbbdfmeccaaDoorTextY
import Derived.Laws.AppendOwnNone
import Derived.Deep.AppendLies
import Derived.WalkSpells
namespace Go.Proofs.YtbcljbbdfmeccaaDoor
open Go.ChangeShapes Go.WideShapes Go.RowKit

def Fits (n : Int) : Prop := -9223372036854775808 ≤ n ∧ n ≤ 9223372036854775807
theorem ofNat_toNat {k : Nat} (h : k < 10) : (UInt8.ofNat (48 + k)).toNat = 48 + k := by
  simp; omega
theorem tmod_abs (a b : Int) (hb : b ≠ 0) : (a.tmod b).natAbs < b.natAbs := by
  rw [Int.natAbs_tmod]
  exact Nat.mod_lt _ (by omega)
def byteVals (l : List UInt8) : List Value := l.map fun b => Value.int .u8 (b.toNat : Int)
/-- The digits of a number that are not yet written. -/
def decTail (u : Nat) : List UInt8 := if u = 0 then [] else Lib.decDigits u
/-- What holds at every round's head. -/
def TRel (n : Int) (w : World) (v i : Value) (wr : World) : Prop :=
  ∃ (m : Int) (bs : List UInt8), i = .int .i64 m ∧ -9223372036854775808 ≤ m ∧ m ≤ 9223372036854775807 ∧ wr.ownsRow w.heap.size 5 1 v bs.length (byteVals bs) ∧ Below w.heap.size w wr ∧
    Hid (decTail m.natAbs ++ bs = Lib.decDigits n.natAbs) ∧ (bs = [] → v = .slice none 0 0)

theorem decTail_step {u : Nat} (h : 1 ≤ u) : decTail u = decTail (u / 10) ++ [UInt8.ofNat (48 + u % 10)] := by
  unfold decTail
  rw [if_neg (by omega)]
  by_cases h1 : u < 10
  · rw [if_pos (by omega), Lib.decDigits_one h1, show u % 10 = u by omega]; rfl
  · rw [if_neg (by omega), Lib.decDigits, dif_neg h1]

theorem digit {m : Int} (hm : m ≠ 0) : ∃ c : UInt8, (c.toNat : Int) = 48 + ((m.tmod 10).natAbs : Int) ∧ decTail m.natAbs = decTail (m.tdiv 10).natAbs ++ [c] := by
  refine ⟨UInt8.ofNat (48 + m.natAbs % 10), ?_, ?_⟩
  · rw [ofNat_toNat (by omega), Int.natAbs_tmod]; rfl
  · rw [decTail_step (by omega), Int.natAbs_tdiv]; rfl

theorem tdiv_small {m : Int} (h1 : -9223372036854775808 ≤ m) (h2 : m ≤ 9223372036854775807) : -9223372036854775808 ≤ m.tdiv 10 ∧ m.tdiv 10 ≤ 9223372036854775807 := by
  have := Int.natAbs_tdiv m 10
  have e : m.natAbs.div (10 : Int).natAbs = m.natAbs / 10 := rfl
  rw [e] at this
  omega
theorem tdiv_less {m : Int} (h : m ≠ 0) : (m.tdiv 10).natAbs < m.natAbs := by
  have := Int.natAbs_tdiv m 10
  have e : m.natAbs.div (10 : Int).natAbs = m.natAbs / 10 := rfl
  rw [e] at this
  omega

theorem trel_nil {n m q X : Int} {w wr : World} (hm : m ≠ 0) (h1 : -9223372036854775808 ≤ m) (h2 : m ≤ 9223372036854775807) (hbel : Below w.heap.size w wr) (hdec : Hid (decTail m.natAbs ++ [] = Lib.decDigits n.natAbs))
    (hX : X = 48 + ((m.tmod 10).natAbs : Int)) (hq : q = m.tdiv 10) :
    TRel n w (.slice (some ⟨wr.heap.size, 0, none⟩) 1 1) (.int .i64 q) (wr.alloc (.cells #[.int .u8 X] 5)) := by
  obtain ⟨c, hc, ht⟩ := digit hm
  obtain ⟨q1, q2⟩ := tdiv_small h1 h2
  subst hq
  refine ⟨_, [c], rfl, q1, q2, ⟨rfl, .inr ⟨wr.heap.size, 1, #[.int .u8 X], rfl, hbel.size, ?_, Nat.le_refl _, by unfold maxLen; omega, rfl, ?_⟩⟩, hbel.alloc hbel.size _, ?_, fun h => by cases h⟩
  · exact (MapKept.heap_alloc wr _).1
  · rw [hX, ← hc]; rfl
  · show decTail (m.tdiv 10).natAbs ++ [c] = _
    have := hdec.out
    rw [ht] at this
    simpa using this

theorem trel_cons {n m q X : Int} {w wr w3 : World} {v' : Value} {bs : List UInt8} (hm : m ≠ 0) (h1 : -9223372036854775808 ≤ m) (h2 : m ≤ 9223372036854775807) (hbel : Below w.heap.size w wr) (hdec : Hid (decTail m.natAbs ++ bs = Lib.decDigits n.natAbs))
    (hX : X = 48 + ((m.tmod 10).natAbs : Int)) (hq : q = m.tdiv 10)
    (hown : w3.ownsRow w.heap.size 5 1 v' (1 + bs.length) ([.int .u8 X] ++ byteVals bs)) (hgrow : (wr.alloc (.cells #[.int .u8 X] 5)).grownBy w3 (Value.ownBlock (.slice (some ⟨wr.heap.size, 0, none⟩) 1 1))) :
    TRel n w v' (.int .i64 q) w3 := by
  obtain ⟨c, hc, ht⟩ := digit hm
  obtain ⟨q1, q2⟩ := tdiv_small h1 h2
  subst hq
  refine ⟨_, c :: bs, rfl, q1, q2, ?_, (hbel.alloc hbel.size _).grown hgrow (by simp; have := hbel.size; omega) (fun k hk => ?_), ?_, fun h => by cases h⟩
  · have e : (c :: bs).length = 1 + bs.length := by simp; omega
    have e2 : byteVals (c :: bs) = [.int .u8 X] ++ byteVals bs := by rw [hX, ← hc]; rfl
    rw [e, e2]; exact hown
  · simp [Value.ownBlock] at hk
    have := hbel.size
    omega
  · show decTail (m.tdiv 10).natAbs ++ c :: bs = _
    have := hdec.out
    rw [ht] at this
    simpa using this

theorem dec_short {n : Int} (hn : Fits n) : (Lib.decDigits n.natAbs).length ≤ 20 := by
  unfold Fits at hn
  rw [Lib.decDigits_length]
  by_cases h1 : 1 ≤ n.natAbs
  · have := Lib.numDigits_eq n.natAbs h1 (by omega)
    split at this <;> omega
  · rw [Lib.nDigits_small (by omega)]; omega

/-- A row of bytes that the call owns, as a string. -/
theorem conv_own {wr : World} {B : Nat} {v : Value} {bs : List UInt8} (hown : wr.ownsRow B 5 1 v bs.length (byteVals bs)) (hne : bs ≠ []) :
    (convert 57 9 v).run Tryd.prog wr = .ok (.string ⟨bs.toArray⟩) wr := by
  rcases hown.2 with ⟨_, h⟩ | ⟨g, cap, cur, rfl, hg, hheap, hle, hcap, hsz, htake⟩
  · exact absurd (List.eq_nil_of_length_eq_zero h) hne
  refine run_convert_bytes_back wr 57 9 5 ⟨g, 0, none⟩ cap bs Tryd.underlying57 Tryd.underlying5 Tryd.underlying9 fun j hj => ?_
  refine World.news_of_block hheap j _ ?_
  have h1 : (cur.toList.take (bs.length * 1))[j]? = (byteVals bs)[j]? := by rw [htake]
  rw [List.getElem?_take, if_pos (by omega)] at h1
  rw [h1]
  simp [byteVals, hj]

theorem own_new {B : Nat} {wr : World} (x : Value) (hB : B ≤ wr.heap.size) : (wr.alloc (.cells #[x] 5)).ownsRow B 5 1 (.slice (some ⟨wr.heap.size, 0, none⟩) 1 1) 1 [x] :=
  ⟨rfl, .inr ⟨wr.heap.size, 1, #[x], rfl, hB, (MapKept.heap_alloc wr _).1, Nat.le_refl _, by unfold maxLen; omega, rfl, rfl⟩⟩
theorem bytes_one (l : List UInt8) : ∀ u ∈ byteVals l, u.oneCell' = true := fun u hu => by
  obtain ⟨_, _, rfl⟩ := List.mem_map.1 hu
  rfl
theorem bytes_len (l : List UInt8) : (byteVals l).length = l.length * 1 := by simp [byteVals]

set_option maxHeartbeats 2000000 in
theorem rtext_ne (n : Int) (hn : Fits n) (h0 : ¬ n = 0) (w : World) :
    Calls Tryd.prog 57 #[.int .i64 n] w fun e w' => e = .returned (.string ⟨(Lib.itoa n).toArray⟩) ∧ Below w.heap.size w w' := by
  obtain ⟨i0, hi, hi3⟩ := Option.map_eq_some_iff.1 info5
  simp only [Prod.mk.injEq] at hi3
  obtain ⟨hz0, hz1, hz2⟩ := hi3
  have HI : Hid (Tryd.prog.info? 5 = some i0 ∧ i0.zero = some (.int .u8 0) ∧ i0.size = 1 ∧ i0.bytes = 1) := ⟨hi, hz0, hz1, hz2⟩
  clear hi hz0 hz1 hz2
  have HN : Hid (n ≠ 0) := h0
  have h0' : (n == 0) = false := by simpa using h0
  clear h0
  go_enter Tryd.func57, Tryd.ntmps57
  go_wp2
  go_loopw [3, 4] (fun v i wr => TRel n w v i wr) (fun _ i _ => (intOf i).natAbs)
  case atStart =>
    refine ⟨n, [], rfl, hn.1, hn.2, World.ownsRow_nil _ _ _ _, Below.refl _ _, ?_, fun _ => rfl⟩
    show decTail n.natAbs ++ [] = _
    unfold decTail
    rw [if_neg (by have := HN.out; omega), List.append_nil]
  case round =>
    obtain ⟨m, bs, rfl, m1, m2, hown, hbel, hdec, hnil⟩ := hrel
    have hsz := hbel.size
    by_cases hm : m = 0
    · subst hm
      have hbs : bs = Lib.decDigits n.natAbs := by
        have := hdec.out
        simpa [decTail] using this
      have hne : bs ≠ [] := by rw [hbs]; exact (by rw [Lib.decDigits]; split <;> simp)
      have hcv := conv_own hown hne
      have hlen : bs.length ≤ 20 := by rw [hbs]; exact dec_short hn
      by_cases hneg : n < 0
      · have HF : Hid (Lib.itoa n = 45 :: bs) := by show Lib.itoa n = _; unfold Lib.itoa; rw [if_pos hneg, hbs]
        clear hnil hown hne hbs
        go_wp2
        go_ret
        refine ⟨ret_str (a := 45 :: bs) HF.out.symm, hbel⟩
      · have HF : Hid (Lib.itoa n = bs) := by show Lib.itoa n = _; unfold Lib.itoa; rw [if_neg hneg, hbs, show n.toNat = n.natAbs by omega]
        clear hnil hown hne hbs
        go_wp2
        go_ret
        exact ⟨ret_str HF.out.symm, hbel⟩
    · have HM : Hid (m ≠ 0) := hm
      have hm' : (m != 0) = true := by simpa using hm
      by_cases hbs : bs = []
      · subst hbs
        have := hnil rfl
        subst this
        clear hnil
        by_cases hpos : 0 < m
        · have HX : Hid (48 + m % 10 = 48 + ((m.tmod 10).natAbs : Int)) := by show _ = _; rw [Int.tmod_eq_emod_of_nonneg (by omega)]; omega
          have HQ : Hid (m / 10 = m.tdiv 10) := by show _ = _; rw [Int.tdiv_eq_ediv_of_nonneg (by omega)]
          go_wp2
          go_roundw
          case rel => exact trel_nil HM.out m1 m2 hbel hdec HX.out HQ.out
          case measure => simp [intOf]; rw [HQ.out]; exact tdiv_less HM.out
        · have hneg : m < 0 := by omega
          have r1 : -9 ≤ m.tmod 10 := by have := tmod_abs m 10 (by decide); omega
          have r2 : m.tmod 10 ≤ 0 := by
            have := Int.tmod_nonneg 10 (a := -m) (by omega)
            rw [Int.neg_tmod] at this
            omega
          clear hpos
          go_wp2
          · go_roundw
            case rel => exact trel_nil HM.out m1 m2 hbel hdec (by omega) rfl
            case measure => exact tdiv_less HM.out
          · go_roundw
            case rel => exact trel_nil HM.out m1 m2 hbel hdec (by omega) rfl
            case measure => exact tdiv_less HM.out
      · have hlen : bs.length ≤ 20 := by
          have := congrArg List.length hdec.out
          rw [List.length_append] at this
          have h20 := dec_short hn
          omega
        have hx := hown.2
        rcases hx with ⟨_, h⟩ | ⟨g, cap, cur, rfl, hg, hheap, hle, hcap, hszc, htake⟩
        · exact absurd (List.eq_nil_of_length_eq_zero h) hbs
        have hglt : g < wr.heap.size := by
          rcases Nat.lt_or_ge g wr.heap.size with h | h
          · exact h
          · rw [Array.getElem?_eq_none h] at hheap; cases hheap
        have hnews : Hid (∀ (o : Obj) j u, (byteVals bs)[j]? = some u → (wr.alloc o).cell? ((⟨g, 0, none⟩ : Addr).add j) = some u) := fun o j u hj => by
          have h1 : (cur.toList.take (bs.length * 1))[j]? = some u := by rw [htake]; exact hj
          have h2 : cur.toList[j]? = some u := by
            rw [List.getElem?_take] at h1
            split at h1
            · exact h1
            · cases h1
          rw [World.cell?_alloc_lt wr o _ (by rw [show ((⟨g, 0, none⟩ : Addr).add j).block = g from by unfold Addr.add; split <;> rfl]; exact hglt)]
          exact World.news_of_block hheap j u h2
        clear hnil hheap htake hszc hbs hown hle hcap hg hglt
        by_cases hpos : 0 < m
        · have HX : Hid (48 + m % 10 = 48 + ((m.tmod 10).natAbs : Int)) := by show _ = _; rw [Int.tmod_eq_emod_of_nonneg (by omega)]; omega
          have HQ : Hid (m / 10 = m.tdiv 10) := by show _ = _; rw [Int.tdiv_eq_ediv_of_nonneg (by omega)]
          go_wp2_with (at_builtin; refine wpList_append_own _ rfl _ _ 57 rfl w.heap.size 5 i0 (.int .u8 0) 1 1 Tryd.underlying57 HI.out.1 HI.out.2.1 HI.out.2.2.1 HI.out.2.2.2 rfl (by decide) _ 1 [.int .u8 (48 + m % 10)] rfl (own_new _ hsz) ⟨g, 0, none⟩ bs.length cap (byteVals bs) rfl (bytes_len bs) (hnews.out _) (bytes_one bs) (by unfold maxLen; omega) (by omega) (by simp; omega) ?_; intro v' w3 hown' hgrow hnil3)
          go_roundw
          case rel => exact trel_cons HM.out m1 m2 hbel hdec HX.out HQ.out hown' hgrow
          case measure => simp [intOf]; rw [HQ.out]; exact tdiv_less HM.out
        · have hneg : m < 0 := by omega
          have r1 : -9 ≤ m.tmod 10 := by have := tmod_abs m 10 (by decide); omega
          have r2 : m.tmod 10 ≤ 0 := by
            have := Int.tmod_nonneg 10 (a := -m) (by omega)
            rw [Int.neg_tmod] at this
            omega
          clear hpos
          by_cases hr0 : m.tmod 10 < 0
          · have HX : Hid (48 + -m.tmod 10 = 48 + ((m.tmod 10).natAbs : Int)) := by show _ = _; omega
            go_wp2_with (at_builtin; refine wpList_append_own _ rfl _ _ 57 rfl w.heap.size 5 i0 (.int .u8 0) 1 1 Tryd.underlying57 HI.out.1 HI.out.2.1 HI.out.2.2.1 HI.out.2.2.2 rfl (by decide) _ 1 [.int .u8 (48 + -m.tmod 10)] rfl (own_new _ hsz) ⟨g, 0, none⟩ bs.length cap (byteVals bs) rfl (bytes_len bs) (hnews.out _) (bytes_one bs) (by unfold maxLen; omega) (by omega) (by simp; omega) ?_; intro v' w3 hown' hgrow hnil3)
            go_roundw
            case rel => exact trel_cons HM.out m1 m2 hbel hdec HX.out rfl hown' hgrow
            case measure => exact tdiv_less HM.out
          · have HX : Hid (48 + m.tmod 10 = 48 + ((m.tmod 10).natAbs : Int)) := by show _ = _; omega
            go_wp2_with (at_builtin; refine wpList_append_own _ rfl _ _ 57 rfl w.heap.size 5 i0 (.int .u8 0) 1 1 Tryd.underlying57 HI.out.1 HI.out.2.1 HI.out.2.2.1 HI.out.2.2.2 rfl (by decide) _ 1 [.int .u8 (48 + m.tmod 10)] rfl (own_new _ hsz) ⟨g, 0, none⟩ bs.length cap (byteVals bs) rfl (bytes_len bs) (hnews.out _) (bytes_one bs) (by unfold maxLen; omega) (by omega) (by simp; omega) ?_; intro v' w3 hown' hgrow hnil3)
            go_roundw
            case rel => exact trel_cons HM.out m1 m2 hbel hdec HX.out rfl hown' hgrow
            case measure => exact tdiv_less HM.out

theorem itoa0 : Lib.itoa 0 = [48] := by unfold Lib.itoa; rw [if_neg (by omega)]; exact Lib.decDigits_one (by decide)
set_option maxHeartbeats 400000 in
theorem rtext_any (n : Int) (hn : Fits n) (w : World) :
    Calls Tryd.prog 57 #[.int .i64 n] w fun e w' => e = .returned (.string ⟨(Lib.itoa n).toArray⟩) ∧ Below w.heap.size w w' := by
  by_cases h0 : n = 0
  · subst h0
    rw [itoa0]
    go_enter Tryd.func57, Tryd.ntmps57
    go_wp2
    go_ret
    exact ⟨rfl, Below.refl _ _⟩
  · exact rtext_ne n hn h0 w
end Go.Proofs.YtbcljbbdfmeccaaDoor
