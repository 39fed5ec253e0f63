/- Walks of the gaps: a line's end, a comment's length, and where no gap stands. Walks of the gaps: gapsEnd, and the document's gap. Plain arithmetic of the package num: what its operations come to, as functions on integers; no program stands in it. Plain facts on numbers' texts: which lists of bytes are a number's text, which number that is, and that texts and numbers lead back to one another; no program stands in it. Walks of num.Parse and what it calls: it answers the plain function of the text's bytes. What a token's walk answers; walks of a fault, a copy, a name and a number. -/
import Derived.Test.YtjebglmpopijhaaGreatDoorMs02
import Derived.Below
import Derived.RowKit
import Derived.Lib.Strings
import Derived.Lib.AtoiAll
import Derived.Test.YtjebglmpopijhaaGreatDoorChecked
import Derived.WalkKit
import Derived.ProofKit
set_option maxRecDepth 100000
set_option maxHeartbeats 32000000
namespace Go.Proofs.YtjebglmpopijhaaGreatDoor
section
open Go.RowKit
theorem Qtb (c : UInt8) : ∀ l : Txt, -1 ≤ Lib.indexByte l c
 | [] => by simp [Lib.indexByte]
 | d :: m => by
  have ih := Qtb c m
  unfold Lib.indexByte; split
  · decide
  split
  · decide
  · omega
theorem Qtj : ∀ l : Txt, (0 ≤ Lib.indexByte l 10 → (lnLen l : Int) = Lib.indexByte l 10) ∧ (¬ 0 ≤ Lib.indexByte l 10 → lnLen l = l.length)
 | [] => by simp [Lib.indexByte, lnLen]
 | c :: l => by
  have ih := Qtj l
  have hg := Qtb 10 l
  unfold Lib.indexByte lnLen
  by_cases h : c = 10
  · subst h; simp
  rw [if_neg (by simp [h]), if_neg h]
  by_cases hm : Lib.indexByte l 10 = -1
  ·
   rw [if_pos (by simp [hm])]
   have := ih.2 (by omega)
   exact ⟨fun h => absurd h (by decide), fun _ => by rw [this, List.length_cons]⟩
  rw [if_neg (by simp [hm])]
  have := ih.1 (by omega)
  exact ⟨fun _ => by omega, fun h => by omega⟩

theorem Qh (s : ByteArray) (w : World) :
  Calls Tryz.prog 96 #[.string s] w fun e w' => e = .returned (.int .i64 (lnLen s.data.toList : Int)) ∧ w' = w := by
 obtain ⟨h1, h2⟩ := Qtj s.data.toList
 by_cases h : 0 ≤ Lib.indexByte s.data.toList 10
 ·
  have H := hide (h1 h)
  clear h1 h2
  go_enter Tryz.func96, Tryz.ntmps96
  go_wp2_with (go_at_call 119; refine (Tryz.strings_IndexByte s 10 _).mono ?_; rintro e w' ⟨rfl, rfl⟩; rw [show (10 : Int).toNat.toUInt8 = 10 from rfl])
  go_ret
  exact ⟨Qax (Qa H).symm, rfl⟩
 have H := hide (h2 h)
 clear h1 h2
 go_enter Tryz.func96, Tryz.ntmps96
 go_wp2_with (go_at_call 119; refine (Tryz.strings_IndexByte s 10 _).mono ?_; rintro e w' ⟨rfl, rfl⟩; rw [show (10 : Int).toNat.toUInt8 = 10 from rfl])
 go_ret
 exact ⟨Qax (by rw [Qa H, ← Qbb]), rfl⟩

theorem Qsw : ∀ l : Txt, (cEnd l = none → Lib.index l [42, 47] = -1) ∧ (∀ n, cEnd l = some n → Lib.index l [42, 47] = (n : Int))
 | [] => ⟨fun _ => rfl, fun n h => by cases h⟩
 | c :: l => by
  have ih := Qsw l
  unfold cEnd Lib.index
  have e : pre [42, 47] (c :: l) = ([42, 47] : Txt).isPrefixOf (c :: l) := rfl
  rw [e]
  by_cases hp : ([42, 47] : Txt).isPrefixOf (c :: l) = true
  ·
   rw [if_pos hp, if_pos hp]
   exact ⟨(fun h => by cases h), (fun n h => by cases h; rfl)⟩
  rw [if_neg hp, if_neg hp]
  cases hc : cEnd l with
  | none =>
   rw [ih.1 hc]
   exact ⟨fun _ => rfl, (fun n h => by cases h)⟩
  | some m =>
   rw [ih.2 m hc, if_neg (by rw [beq_iff_eq]; omega)]
   refine ⟨(fun h => by cases h), fun n h => ?_⟩
   have : m + 1 = n := by simpa using h
   omega
def cmV : Option Nat → Value
 | none => .tuple #[.int .i64 0, .bool false]
 | some n => .tuple #[.int .i64 ((n : Int) + 4), .bool true]

theorem Qfz (s : ByteArray) (k : Nat) : (s.extract k s.size).data.toList = s.data.toList.drop k := by
 have : (s.extract k s.size).data = s.data.extract k s.size := by simp
 rw [this, Array.toList_extract]
 show (s.data.toList.drop k).take (s.size - k) = _
 exact List.take_of_length_le (by rw [Qaw]; exact Nat.le_refl _)
theorem Qdz (s : ByteArray) (k n : Nat) : (s.extract k (k + n)).data.toList = (s.data.toList.drop k).take n := by
 have : (s.extract k (k + n)).data = s.data.extract k (k + n) := by simp
 rw [this, Array.toList_extract]
 simp [List.take_drop]
theorem Qeg {s : ByteArray} {l : Txt} (h : s.data.toList = l) : s = ⟨l.toArray⟩ := by
 cases s with
 | mk d => subst h; rfl
theorem Qex (s : ByteArray) (k : Nat) (a : Int) (ha : a = (k : Int)) (hk : k ≤ s.size) (w : World) :
  (Instr.slice 9 (.string s) (some (.int .i64 a)) none none).run Tryz.prog w = .ok (.string (s.extract k s.size)) w := by
 subst ha
 have := run_slice_string_l (P := Tryz.prog) w 9 s Tryz.underlying9 .i64 (k : Int) (by omega) (by omega)
 rwa [Int.toNat_natCast] at this
theorem Qed (s : ByteArray) (k n : Nat) (a b : Int) (ha : a = (k : Int)) (hb : b = ((k + n : Nat) : Int)) (hk : k + n ≤ s.size) (w : World) :
  (Instr.slice 9 (.string s) (some (.int .i64 a)) (some (.int .i64 b)) none).run Tryz.prog w = .ok (.string (s.extract k (k + n))) w := by
 subst ha hb
 have := run_slice_string (P := Tryz.prog) w 9 s .i64 .i64 (k : Int) ((k + n : Nat) : Int) Tryz.underlying9 (by omega) (by omega) (by omega)
 rwa [Int.toNat_natCast, Int.toNat_natCast] at this

theorem Qdk (s : ByteArray) (m : Int) (h2 : 2 ≤ s.size) (hs : s.size ≤ 65536) (w : World) (hm : w.cell? ⟨2, 0, none⟩ = some (.int .i64 m)) :
  Calls Tryz.prog 97 #[.string s] w fun e w' => e = .returned (cmV (cEnd (s.data.toList.drop 2))) ∧ w' = w := by
 have hrun := Qex s 2 2 rfl h2
 obtain ⟨u, hu⟩ : ∃ u, s.extract 2 s.size = u := ⟨_, rfl⟩
 have hul : u.data.toList = s.data.toList.drop 2 := by rw [← hu]; exact Qfz s 2
 have hus : u.size < 4294967281 := by rw [Qbb, hul, Qaw]; omega
 rw [hu] at hrun
 obtain ⟨i1, i2⟩ := Qsw u.data.toList
 rw [← hul]
 clear hul hu
 have HM := hide hm
 clear hm
 cases hc : cEnd u.data.toList with
 | none =>
  have H := hide (i1 hc)
  clear i1 i2
  go_enter Tryz.func97, Tryz.ntmps97
  go_wp2_with (go_at_call 120; refine (Tryz.strings_Index u ⟨#[42, 47]⟩ m _ hus (Qa HM)).mono ?_; rintro e w' ⟨rfl, rfl⟩; rw [show Lib.index u.data.toList (⟨#[42, 47]⟩ : ByteArray).data.toList = -1 from Qa H])
  go_ret2
  exact ⟨rfl, rfl⟩
 | some n =>
  have H := hide (i2 n hc)
  have hn : n ≤ 65536 := by
   have := ce_le _ _ hc
   rw [← Qbb] at this
   have : u.size ≤ s.size := by have := Qex s 2 2 rfl h2 w; rw [hrun w] at this; injection this with this _; injection this with this; rw [this]; simp
   omega
  clear i1 i2
  go_enter Tryz.func97, Tryz.ntmps97
  go_wp2_with (go_at_call 120; refine (Tryz.strings_Index u ⟨#[42, 47]⟩ m _ hus (Qa HM)).mono ?_; rintro e w' ⟨rfl, rfl⟩; rw [show Lib.index u.data.toList (⟨#[42, 47]⟩ : ByteArray).data.toList = (n : Int) from Qa H])
  go_ret2
  exact ⟨by simp [cmV]; omega, rfl⟩
end
section
open Go.RowKit
theorem Qiz {s : ByteArray} {m : Nat} (h : m < s.size) (hb : isB (bv s[m]) = true) : gapAt (s.data.toList.drop m) = .gap 1 := by
  rw [Qaj s m h, Qeu, if_pos hb]
theorem Qlq {s : ByteArray} {m : Nat} (h : m < s.size) (hb : isB (bv s[m]) = false) (hp : pre [47, 47] (s.data.toList.drop m) = true) : gapAt (s.data.toList.drop m) = .gap (lnLen (s.data.toList.drop m)) := by
  rw [Qaj s m h] at hp ⊢
  rw [Qeu, if_neg (by simp [hb]), if_pos hp]
theorem Qlp {s : ByteArray} {m : Nat} (h : m < s.size) (hb : isB (bv s[m]) = false) (hp : pre [47, 47] (s.data.toList.drop m) = false) (hq : pre [47, 42] (s.data.toList.drop m) = true) :
    gapAt (s.data.toList.drop m) = cGap (s.data.toList.drop (m + 2)) := by
  rw [Qaj s m h] at hp hq ⊢
  rw [Qeu, if_neg (by simp [hb]), if_neg (by simp [hp]), if_pos hq, List.drop_drop]
theorem Qoo {s : ByteArray} {m : Nat} (h : m < s.size) (hb : isB (bv s[m]) = false) (hp : pre [47, 47] (s.data.toList.drop m) = false) (hq : pre [47, 42] (s.data.toList.drop m) = false) :
    gapAt (s.data.toList.drop m) = .none := by
  rw [Qaj s m h] at hp hq ⊢
  rw [Qeu, if_neg (by simp [hb]), if_neg (by simp [hp]), if_neg (by simp [hq])]
theorem Qq {s : ByteArray} {m : Nat} {a b : UInt8} (h : pre [a, b] (s.data.toList.drop m) = true) : m + 2 ≤ s.size := by
  have := Qfj h
  rw [Qaw] at this
  simp only [List.length_cons, List.length_nil] at this
  omega

def Gone (s : ByteArray) (k m : Nat) : Prop := k ≤ m ∧ m ≤ s.size ∧ scan k (s.data.toList.drop k) = scan m (s.data.toList.drop m)
theorem Gone.step {s : ByteArray} {k m n : Nat} (h : Gone s k m) (hg : gapAt (s.data.toList.drop m) = .gap n) : Gone s k (m + n) ∧ 0 < n := by
  have hp := Qeo hg
  rw [Qaw] at hp
  refine ⟨⟨by have := h.1; omega, by have := h.2.1; omega, ?_⟩, hp.1⟩
  rw [h.2.2, Qf hg, List.drop_drop]
def GapEnd (s : ByteArray) (k : Nat) (e : Ending) : Prop := ∃ m, Gone s k m ∧
  ((gapAt (s.data.toList.drop m) = .never ∧ e = .returned (.tuple #[.int .i64 0, .agg #[.int .i64 7, .int .i64 (m : Int)]])) ∨
   (gapAt (s.data.toList.drop m) = .none ∧ e = .returned (.tuple #[.int .i64 (m : Int), .agg #[.int .i64 0, .int .i64 0]])))

theorem Qgj (s : ByteArray) (k : Nat) (ml : Int) (hk : k ≤ s.size) (hs : s.size ≤ 65536) (w : World) (hm : w.cell? ⟨2, 0, none⟩ = some (.int .i64 ml)) :
    Calls Tryz.prog 69 #[.string s, .int .i64 (k : Int)] w fun e w' => GapEnd s k e ∧ Below w.heap.size w w' := by
  have HM := hide (show ∀ o, (w.alloc o).cell? ⟨2, 0, none⟩ = some (.int .i64 ml) from fun o => (((Below.refl w.heap.size w).alloc (Nat.le_refl _) o).cell (World.block_lt_of_cell? w _ hm)).trans hm)
  have HB := hide (show ∀ o, Below w.heap.size w (w.alloc o) from fun o => (Below.refl w.heap.size w).alloc (Nat.le_refl _) o)
  clear hm
  go_enter Tryz.func69, Tryz.ntmps69
  go_wp2
  go_loop [1] (fun i => ∃ m : Nat, i = .int .i64 (m : Int) ∧ Hid (Gone s k m)) (fun i => s.size - (intOf i).toNat)
  case atStart => exact ⟨k, rfl, hide ⟨Nat.le_refl _, hk, rfl⟩⟩
  obtain ⟨m, rfl, HH⟩ := hrel
  have hle := (Qa HH).2.1
  by_cases hlt : m < s.size
  · have hrun := Qex s m (m : Int) rfl hle
    obtain ⟨u, hu⟩ : ∃ u, s.extract m s.size = u := ⟨_, rfl⟩
    have hul : u.data.toList = s.data.toList.drop m := by rw [← hu]; exact Qfz s m
    rw [hu] at hrun
    have HUL := hide hul
    clear hu hul
    cases hb : isB (s[m].toNat : Int) with
    | true =>
      go_wp2_with (go_at_call 94; refine (Qcy _ _).mono ?_; rintro e w' ⟨rfl, rfl⟩; rw [hb])
      go_round
      case rel => exact ⟨m + 1, by go_num, hide ((Qa HH).step (Qiz hlt hb)).1⟩
      case measure => simp [intOf]; omega
    | false =>
      cases hp : pre [47, 47] (s.data.toList.drop m) with
      | true =>
        have HP := hide (show Lib.hasPrefix u.data.toList (⟨#[47, 47]⟩ : ByteArray).data.toList = true by rw [Qa HUL]; exact hp)
        have HG := hide (Qlq hlt hb hp)
        have hst := (Qa HH).step (Qa HG)
        have hln : lnLen u.data.toList = lnLen (s.data.toList.drop m) := by rw [Qa HUL]
        obtain ⟨n, hn⟩ : ∃ n, lnLen (s.data.toList.drop m) = n := ⟨_, rfl⟩
        rw [hn] at hln hst
        have HST := hide hst
        have hbd := hst.1.2.1
        have hpos := hst.2
        clear hp hn hst
        go_wp2_with (first
          | (go_at_call 94; refine (Qcy _ _).mono ?_; rintro e w' ⟨rfl, rfl⟩; rw [hb])
          | (go_at_call 95; refine (Tryz.strings_HasPrefix u ⟨#[47, 47]⟩ _).mono ?_; rintro e w' ⟨rfl, rfl⟩; rw [Qa HP])
          | (go_at_call 96; refine (Qh u _).mono ?_; rintro e w' ⟨rfl, rfl⟩; rw [hln]))
        go_round
        case rel => exact ⟨m + n, by go_num, hide (Qa HST).1⟩
        case measure => simp [intOf]; omega
      | false =>
        have HP := hide (show Lib.hasPrefix u.data.toList (⟨#[47, 47]⟩ : ByteArray).data.toList = false by rw [Qa HUL]; exact hp)
        cases hq : pre [47, 42] (s.data.toList.drop m) with
        | false =>
          have HQ := hide (show Lib.hasPrefix u.data.toList (⟨#[47, 42]⟩ : ByteArray).data.toList = false by rw [Qa HUL]; exact hq)
          have HG := hide (Qoo hlt hb hp hq)
          clear hp hq
          go_wp2_with (first
            | (go_at_call 94; refine (Qcy _ _).mono ?_; rintro e w' ⟨rfl, rfl⟩; rw [hb])
            | (go_at_call 95; refine (Tryz.strings_HasPrefix u _ _).mono ?_; rintro e w' ⟨rfl, rfl⟩; first | rw [Qa HP] | rw [Qa HQ]))
          refine bodyPost_ret (v := .tuple #[.int .i64 (m : Int), .agg #[.int .i64 0, .int .i64 0]]) (by simp [results, Tryz.results69, go_sem]) rfl ?_
          exact ⟨⟨m, Qa HH, .inr ⟨Qa HG, rfl⟩⟩, Qa HB _⟩
        | true =>
          have HQ := hide (show Lib.hasPrefix u.data.toList (⟨#[47, 42]⟩ : ByteArray).data.toList = true by rw [Qa HUL]; exact hq)
          have HG := hide (Qlp hlt hb hp hq)
          have h2 := Qq hq
          have hus : u.size = s.size - m := by rw [Qbb, Qa HUL, Qaw]
          have hd2 : u.data.toList.drop 2 = s.data.toList.drop (m + 2) := by rw [Qa HUL, List.drop_drop]
          have HD2 := hide hd2
          have hu2 : 2 ≤ u.size := by omega
          have hu3 : u.size ≤ 65536 := by omega
          clear hp hq hd2 hus
          cases hc : cEnd (s.data.toList.drop (m + 2)) with
          | none =>
            have HC := hide hc
            clear hc
            go_wp2_with (first
              | (go_at_call 94; refine (Qcy _ _).mono ?_; rintro e w' ⟨rfl, rfl⟩; rw [hb])
              | (go_at_call 95; refine (Tryz.strings_HasPrefix u _ _).mono ?_; rintro e w' ⟨rfl, rfl⟩; first | rw [Qa HP] | rw [Qa HQ])
              | (go_at_call 97; refine (Qdk u ml hu2 hu3 _ (Qa HM _)).mono ?_; rintro e w' ⟨rfl, rfl⟩; rw [Qa HD2, Qa HC]; unfold cmV))
            refine bodyPost_ret (v := .tuple #[.int .i64 0, .agg #[.int .i64 7, .int .i64 (m : Int)]]) (by simp [results, Tryz.results69, go_sem]) rfl ?_
            exact ⟨⟨m, Qa HH, .inl ⟨by rw [Qa HG]; unfold cGap; rw [Qa HC], rfl⟩⟩, Qa HB _⟩
          | some n =>
            have HC := hide hc
            have hg2 : gapAt (s.data.toList.drop m) = .gap (n + 4) := by rw [Qa HG]; unfold cGap; rw [hc]
            have hst := (Qa HH).step hg2
            have HST := hide hst
            have hbd := hst.1.2.1
            clear hc hg2 hst
            go_wp2_with (first
              | (go_at_call 94; refine (Qcy _ _).mono ?_; rintro e w' ⟨rfl, rfl⟩; rw [hb])
              | (go_at_call 95; refine (Tryz.strings_HasPrefix u _ _).mono ?_; rintro e w' ⟨rfl, rfl⟩; first | rw [Qa HP] | rw [Qa HQ])
              | (go_at_call 97; refine (Qdk u ml hu2 hu3 _ (Qa HM _)).mono ?_; rintro e w' ⟨rfl, rfl⟩; rw [Qa HD2, Qa HC]; unfold cmV))
            go_round
            case rel => exact ⟨m + (n + 4), by go_num, hide (Qa HST).1⟩
            case measure => simp [intOf]; omega
  · go_wp2
    refine bodyPost_ret (v := .tuple #[.int .i64 (m : Int), .agg #[.int .i64 0, .int .i64 0]]) (by simp [results, Tryz.results69, go_sem]) rfl ?_
    exact ⟨⟨m, Qa HH, .inr ⟨by rw [Qbi s m (by omega)]; rfl, rfl⟩⟩, Qa HB _⟩
end
end Go.Proofs.YtjebglmpopijhaaGreatDoor
namespace Go.Proofs.YtjebglmpopijhaaGreatDoor.Num
open Go.RowKit

/-- A number of 64 bits. -/
def Fits (n : Int) : Prop := -9223372036854775808 ≤ n ∧ n ≤ 9223372036854775807

def addP (a b : Int) : Int × Int := if -9223372036854775808 ≤ a + b ∧ a + b ≤ 9223372036854775807 then (a + b, 0) else (0, 8)
def subP (a b : Int) : Int × Int := if -9223372036854775808 ≤ a - b ∧ a - b ≤ 9223372036854775807 then (a - b, 0) else (0, 8)
def mulP (a b : Int) : Int × Int := if -9223372036854775808 ≤ a * b ∧ a * b ≤ 9223372036854775807 then (a * b, 0) else (0, 8)
def divP (a b : Int) : Int × Int := if b = 0 then (0, 9) else if a = -9223372036854775808 ∧ b = -1 then (0, 8) else (a.tdiv b, 0)
def remP (a b : Int) : Int × Int := if b = 0 then (0, 9) else (a.tmod b, 0)

theorem ret2 {a b : Int} {p : Int × Int} (h : p = (a, b)) : Ending.returned (.tuple #[.int .i64 a, .int .i64 b]) = .returned (.tuple #[.int .i64 p.1, .int .i64 p.2]) := by
 subst h; rfl

theorem mulP_in {a b : Int} (h : Fits (a * b)) : mulP a b = (a * b, 0) := by unfold mulP; exact if_pos h
theorem zero_mul (b : Int) : mulP 0 b = (0, 0) := by
 rw [mulP_in (by unfold Fits; omega)]; simp
end Go.Proofs.YtjebglmpopijhaaGreatDoor.Num
namespace Go.Proofs.YtjebglmpopijhaaGreatDoor.Num
open Go.RowKit

def dig (c : UInt8) : Bool := decide (48 ≤ c.toNat) && decide (c.toNat ≤ 57)
def valFrom : Nat → List UInt8 → Nat
 | acc, [] => acc
 | acc, c :: r => valFrom (acc * 10 + (c.toNat - 48)) r
def trim (l : List UInt8) : List UInt8 := Lib.trimPrefix l [45]
def isNeg (l : List UInt8) : Bool := l.head? == some 45
def numForm (l : List UInt8) : Bool := l == [48] || (!(trim l).isEmpty && (trim l).head? != some 48 && (trim l).all dig)
def numVal (l : List UInt8) : Int := if isNeg l = true then -(valFrom 0 (trim l) : Int) else (valFrom 0 (trim l) : Int)
def parseP (l : List UInt8) : Int × Int :=
 if numForm l = true then (if -9223372036854775808 ≤ numVal l ∧ numVal l ≤ 9223372036854775807 then (numVal l, 0) else (0, 8)) else (0, 7)

theorem Qkj {c : UInt8} : dig c = true ↔ 48 ≤ c.toNat ∧ c.toNat ≤ 57 := by simp [dig]

theorem Qhn : ∀ (l : List UInt8) (acc : Nat), acc ≤ valFrom acc l
 | [], acc => Nat.le_refl _
 | x :: r, acc => by
  have := Qhn r (acc * 10 + (x.toNat - 48))
  have h2 : acc ≤ acc * 10 + (x.toNat - 48) := by omega
  exact Nat.le_trans h2 this

theorem trim_cases (l : List UInt8) : (isNeg l = true ∧ l = 45 :: trim l) ∨ (isNeg l = false ∧ trim l = l) := by
 unfold isNeg trim Lib.trimPrefix Lib.hasPrefix
 cases l with
 | nil => right; simp
 | cons c r =>
  by_cases h : c = 45
  · subst h; left; simp
  right
  have h2 : ¬ 45 = c := fun e => h e.symm
  simp [h, h2]

theorem Qon : numForm [48] = true := by decide
theorem Qom {l : List UInt8} (h : numForm l = true) : (trim l).all dig = true ∧ trim l ≠ [] := by
 unfold numForm at h
 simp only [Bool.or_eq_true, Bool.and_eq_true, beq_iff_eq] at h
 rcases h with rfl | ⟨⟨h1, _⟩, h3⟩
 · exact ⟨by decide, by decide⟩
 · exact ⟨h3, fun e => by rw [e] at h1; simp at h1⟩

theorem Qgn (l : List UInt8) : ∀ (acc : Nat), l.all dig = true → acc < 18446744073709551616 →
  Lib.parseUint10 acc l = if valFrom acc l < 18446744073709551616 then .ok (valFrom acc l) else .range := by
 induction l with
 | nil =>
  intro acc _ ha
  have e : valFrom acc [] = acc := rfl
  rw [e, if_pos ha]
  rfl
 | cons c r ih =>
  intro acc h ha
  simp only [List.all_cons, Bool.and_eq_true] at h
  have hc := Qkj.1 h.1
  have hm := Qhn r (acc * 10 + (c.toNat - 48))
  have e : valFrom acc (c :: r) = valFrom (acc * 10 + (c.toNat - 48)) r := rfl
  rw [e, Lib.parseUint10, if_pos hc]
  by_cases h1 : 1844674407370955162 ≤ acc
  · rw [if_pos h1, if_neg (by omega)]
  rw [if_neg h1]
  by_cases h2 : 18446744073709551616 ≤ acc * 10 + (c.toNat - 48)
  · rw [if_pos h2, if_neg (by omega)]
  rw [if_neg h2]
  exact ih _ h.2 (by omega)

theorem Qip {l : List UInt8} (h : numForm l = true) :
  (Fits (numVal l) → Lib.atoiAll l = .ok (numVal l)) ∧ (¬ Fits (numVal l) → Lib.atoiAll l = .range) := by
 obtain ⟨hd, hne⟩ := Qom h
 have hp := Qgn (trim l) 0 hd (by omega)
 have hmag : Lib.parseMag (trim l) = if valFrom 0 (trim l) < 18446744073709551616 then .ok (valFrom 0 (trim l)) else .range := by
  unfold Lib.parseMag; rw [if_neg hne]; exact hp
 rcases trim_cases l with ⟨hn, hl⟩ | ⟨hn, hl⟩
 ·
  generalize htd : trim l = d at *
  unfold numVal Fits
  rw [hn, htd, if_pos rfl]
  generalize valFrom 0 d = v at *
  have e : Lib.atoiAll l = match Lib.parseMag d with
   | .ok u => if 9223372036854775808 < u then .range else .ok (-(u : Int))
   | x => x.rec (fun u => .ok (u : Int)) (Lib.atoiAll []) .range := by
   rw [hl]; unfold Lib.atoiAll
   simp
   cases Lib.parseMag d <;> simp
  rw [e, hmag]
  by_cases h1 : v < 18446744073709551616
  ·
   rw [if_pos h1]
   by_cases h2 : 9223372036854775808 < v
   · exact ⟨fun hf => absurd hf (by omega), fun _ => show (if 9223372036854775808 < v then Lib.NumEnd.range else .ok (-(v : Int))) = .range from if_pos h2⟩
   · exact ⟨fun _ => show (if 9223372036854775808 < v then Lib.NumEnd.range else .ok (-(v : Int))) = .ok (-(v : Int)) from if_neg h2, fun hf => absurd hf (by omega)⟩
  rw [if_neg h1]
  exact ⟨fun hf => absurd hf (by omega), fun _ => rfl⟩
 rw [hl] at hd hne hmag
 unfold numVal Fits
 rw [hn, hl, if_neg (by simp)]
 generalize hv : valFrom 0 l = v at *
 cases l with
 | nil => exact absurd rfl hne
 | cons c r =>
  have hc := Qkj.1 (by simpa using (List.all_eq_true.1 hd) c (by simp) : dig c = true)
  have h45 : ¬ c.toNat = 45 := by omega
  have h43 : ¬ (c.toNat = 43 ∨ c.toNat = 45) := by omega
  have e : Lib.atoiAll (c :: r) = match Lib.parseMag (c :: r) with
   | .ok u => if 9223372036854775808 ≤ u then .range else .ok (u : Int)
   | x => x.rec (fun u => .ok (u : Int)) (Lib.atoiAll []) .range := by
   unfold Lib.atoiAll
   simp only [if_neg h43]
   cases Lib.parseMag (c :: r) <;> simp [h45]
  rw [e, hmag]
  by_cases h1 : v < 18446744073709551616
  ·
   rw [if_pos h1]
   by_cases h2 : 9223372036854775808 ≤ v
   · exact ⟨fun hf => absurd hf (by omega), fun _ => show (if 9223372036854775808 ≤ v then Lib.NumEnd.range else .ok (v : Int)) = .range from if_pos h2⟩
   · exact ⟨fun _ => show (if 9223372036854775808 ≤ v then Lib.NumEnd.range else .ok (v : Int)) = .ok (v : Int) from if_neg h2, fun hf => absurd hf (by omega)⟩
  rw [if_neg h1]
  exact ⟨fun hf => absurd hf (by omega), fun _ => rfl⟩

theorem Qmu {l : List UInt8} (h : numForm l = false) : parseP l = (0, 7) := by unfold parseP; rw [if_neg (by simp [h])]
theorem parse_in {l : List UInt8} (h : numForm l = true) (hf : Fits (numVal l)) : parseP l = (numVal l, 0) := by unfold parseP; rw [if_pos h]; exact if_pos hf
theorem parse_out {l : List UInt8} (h : numForm l = true) (hf : ¬ Fits (numVal l)) : parseP l = (0, 8) := by unfold parseP; rw [if_pos h]; exact if_neg hf

/-! ### There and back -/
end Go.Proofs.YtjebglmpopijhaaGreatDoor.Num
namespace Go.Proofs.YtjebglmpopijhaaGreatDoor.Num
open Go.ChangeShapes Go.WideShapes Go.ChangeAt Go.RowKit

theorem Qre (s : ByteArray) (k : Nat) (h : k < s.size) : s.data.toList.take (k + 1) = s.data.toList.take k ++ [s[k]] := by
 rw [List.take_succ_eq_append_getElem (by simpa using h)]; rfl
theorem Qbk {a b : Bool} (h : a = b) : Ending.returned (.bool a) = .returned (.bool b) := by rw [h]
/-- 'All are digits', closed to the walk. -/
def allDig (l : List UInt8) : Bool := l.all dig
theorem Qrq {s : ByteArray} (h : allDig (s.data.toList.take s.size) = true) : allDig s.data.toList = true := by
 have e : s.data.toList.take s.size = s.data.toList := List.take_of_length_le (by rw [Array.length_toList]; exact Nat.le_refl _)
 rwa [e] at h
theorem Qrp {l : List UInt8} {c : UInt8} (h : allDig l = true) (h1 : 48 ≤ (c.toNat : Int)) (h2 : (c.toNat : Int) ≤ 57) : allDig (l ++ [c]) = true := by
 unfold allDig at *
 rw [List.all_append, h]
 simp [dig]
 omega
theorem all_bad {s : ByteArray} {k : Nat} (hk : k < s.size) (h : ¬ (48 ≤ (s[k].toNat : Int) ∧ (s[k].toNat : Int) ≤ 57)) : allDig s.data.toList = false := by
 rw [Bool.eq_false_iff]
 intro ha
 have := Qkj.1 (List.all_eq_true.1 ha s[k] (by
  have : s[k] = s.data.toList[k]'(by simpa using hk) := rfl
  rw [this]; exact List.getElem_mem _))
 omega

set_option maxHeartbeats 400000 in
theorem Qhr (s : ByteArray) (w : World) (hs : s.size ≤ maxLen) :
  Calls Tryz.prog 174 #[.string s] w fun e w' => e = .returned (.bool (allDig s.data.toList)) ∧ w' = w := by
 unfold maxLen at hs
 go_enter Tryz.func174, Tryz.ntmps174
 go_wp2
 go_loop [6] (fun i => ∃ k : Nat, k ≤ s.size ∧ i = .int .i64 k ∧ Hid (allDig (s.data.toList.take k) = true)) (fun i => s.size - (intOf i).toNat)
 case atStart => exact ⟨0, Nat.zero_le _, rfl, rfl⟩
 obtain ⟨k, hk, rfl, hd⟩ := hrel
 by_cases hlt : k < s.size
 ·
  have hts : Hid (s.data.toList.take (k + 1) = s.data.toList.take k ++ [s[k]]) := Qre s k hlt
  have hbad : Hid (¬ (48 ≤ (s[k].toNat : Int) ∧ (s[k].toNat : Int) ≤ 57) → allDig s.data.toList = false) := all_bad hlt
  go_wp2
  ·
   go_ret
   exact ⟨Qbk (hbad.out (by omega)).symm, rfl⟩
  ·
   go_round
   case rel => exact ⟨k + 1, by omega, by go_num, by show allDig _ = true; rw [hts.out]; exact Qrp hd.out (by omega) (by omega)⟩
   case measure => simp [intOf]; omega
  go_ret
  exact ⟨Qbk (hbad.out (by omega)).symm, rfl⟩
 go_wp2
 go_ret
 refine ⟨Qbk ?_, rfl⟩
 have : k = s.size := by omega
 subst this
 rw [Qrq hd.out]

theorem Qqw (l : List UInt8) : (⟨l.toArray⟩ : ByteArray).size = l.length := by simp [ByteArray.size]

theorem Qrw {l : List UInt8} (h0 : ¬ l = [48]) (h : trim l = []) : numForm l = false := by
 unfold numForm; rw [h]; simp [h0]
theorem Qmp {l r : List UInt8} (h0 : ¬ l = [48]) (h : trim l = 48 :: r) : numForm l = false := by
 unfold numForm; rw [h]; simp [h0]
theorem form_cons {l r : List UInt8} {c : UInt8} (h0 : ¬ l = [48]) (h : trim l = c :: r) (hc : ¬ c = 48) : numForm l = allDig (c :: r) := by
 have e1 : (l == [48]) = false := beq_eq_false_iff_ne.2 h0
 have e2 : ((some c : Option UInt8) != some 48) = true := bne_iff_ne.2 fun e => hc (Option.some.inj e)
 unfold numForm allDig
 rw [h]
 simp only [List.isEmpty_cons, List.head?_cons, e1, e2]
 simp
theorem trim_le (l : List UInt8) : (trim l).length ≤ l.length := by
 rcases trim_cases l with ⟨_, h⟩ | ⟨_, h⟩
 ·
  have := congrArg List.length h
  simp at this; omega
 · rw [h]; exact Nat.le_refl _
theorem not48 {c : UInt8} (h : ¬ c = 48) : ¬ (c.toNat : Int) = 48 := fun e => h (UInt8.toNat_inj.1 (by
 have : c.toNat = 48 := by omega
 rw [this]; rfl))

set_option maxHeartbeats 400000 in
theorem Qfi (s : ByteArray) (w : World) (hs : s.size ≤ maxLen) :
  Calls Tryz.prog 144 #[.string s] w fun e w' => e = .returned (.bool (numForm s.data.toList)) ∧ w' = w := by
 by_cases h0 : s.data.toList = [48]
 ·
  have e0 : (s.toList == [48]) = true := by rw [Lib.toList_data, h0]; rfl
  have H : Hid (numForm s.data.toList = true) := by rw [h0]; exact Qon
  clear h0
  go_enter Tryz.func144, Tryz.ntmps144
  go_wp2
  go_ret
  exact ⟨Qbk H.out.symm, rfl⟩
 have e0 : (s.toList == [48]) = false := by rw [Lib.toList_data, beq_eq_false_iff_ne]; exact h0
 cases ht : trim s.data.toList with
 | nil =>
  have H : Hid (numForm s.data.toList = false) := Qrw h0 ht
  have ht' : Lib.trimPrefix s.data.toList [45] = [] := ht
  clear h0 ht
  go_enter Tryz.func144, Tryz.ntmps144
  go_wp2_with (go_at_call 173; refine (Tryz.strings_TrimPrefix _ _ _).mono ?_; rintro e w' ⟨rfl, rfl⟩)
  go_ret
  exact ⟨Qbk H.out.symm, rfl⟩
 | cons c r =>
  have ht' : Lib.trimPrefix s.data.toList [45] = c :: r := ht
  by_cases hc : c = 48
  ·
   have H : Hid (numForm s.data.toList = false) := by subst hc; exact Qmp h0 ht
   subst hc
   clear h0 ht
   go_enter Tryz.func144, Tryz.ntmps144
   go_wp2_with (go_at_call 173; refine (Tryz.strings_TrimPrefix _ _ _).mono ?_; rintro e w' ⟨rfl, rfl⟩)
   go_ret
   exact ⟨Qbk H.out.symm, rfl⟩
  have H : Hid (numForm s.data.toList = allDig (c :: r)) := form_cons h0 ht hc
  have hlen : (⟨(c :: r).toArray⟩ : ByteArray).size ≤ maxLen := by
   have := trim_le s.data.toList
   rw [ht] at this
   rw [Qqw]
   have e : s.size = s.data.toList.length := Lib.size_eq s
   omega
  have h48 := not48 hc
  clear h0 ht hc
  go_enter Tryz.func144, Tryz.ntmps144
  go_wp2_with (first
   | (go_at_call 173; refine (Tryz.strings_TrimPrefix _ _ _).mono ?_; rintro e w' ⟨rfl, rfl⟩)
   | (go_at_call 174; refine (Qhr ⟨(c :: r).toArray⟩ _ hlen).mono ?_; rintro e w' ⟨rfl, rfl⟩))
  go_ret
  refine ⟨Qbk ?_, rfl⟩
  rw [H.out]
  show ((c.toNat : Int) != 48 && allDig (c :: r)) = allDig (c :: r)
  rw [bne_iff_ne.2 h48]
  rfl

set_option maxHeartbeats 400000 in
theorem parse_any (s : ByteArray) (w : World) (hlim : s.size ≤ 281474976710656) {t1 : TypeId} {p1 : Value}
  (hv1 : w.var? Tryz.prog "strconv.ErrRange" = some #[.iface t1 p1]) :
  Calls Tryz.prog 126 #[.string s] w fun e w' => e = .returned (.tuple #[.int .i64 (parseP s.data.toList).1, .int .i64 (parseP s.data.toList).2]) ∧ Below w.heap.size w w' := by
 have hm : s.size ≤ maxLen := by unfold maxLen; omega
 have V1 : Hid (w.var? Tryz.prog "strconv.ErrRange" = some #[.iface t1 p1]) := hv1
 clear hv1
 cases hf : numForm s.data.toList with
 | false =>
  have H : Hid (parseP s.data.toList = (0, 7)) := Qmu hf
  go_enter Tryz.func126, Tryz.ntmps126
  go_wp2_with (go_at_call 144; refine (Qfi _ _ hm).mono ?_; rintro e w' ⟨rfl, rfl⟩)
  go_ret2
  exact ⟨ret2 H.out, Below.refl _ _⟩
 | true =>
  by_cases hr : Fits (numVal s.data.toList)
  ·
   have H : Hid (parseP s.data.toList = (numVal s.data.toList, 0)) := parse_in hf hr
   have A : Hid (Lib.atoiAll s.data.toList = .ok (numVal s.data.toList)) := (Qip hf).1 hr
   clear hr
   go_enter Tryz.func126, Tryz.ntmps126
   go_wp2_with (first
    | (go_at_call 144; refine (Qfi _ _ hm).mono ?_; rintro e w' ⟨rfl, rfl⟩)
    | (go_at_call 145; refine (Tryz.atoi_ok s (by omega) _ A.out _).mono ?_; rintro e w1 ⟨rfl, hw⟩))
   go_ret2
   exact ⟨ret2 H.out, hw⟩
  have H : Hid (parseP s.data.toList = (0, 8)) := parse_out hf hr
  have A : Hid (Lib.atoiAll s.data.toList = .range) := (Qip hf).2 hr
  clear hr
  go_enter Tryz.func126, Tryz.ntmps126
  go_wp2_with (first
   | (go_at_call 144; refine (Qfi _ _ hm).mono ?_; rintro e w' ⟨rfl, rfl⟩)
   | (go_at_call 145; refine (Tryz.atoi_range s hlim A.out _ _ _ V1.out).mono ?_; rintro e w1 ⟨⟨N, rfl⟩, hw⟩))
  go_ret2
  exact ⟨ret2 H.out, hw⟩
end Go.Proofs.YtjebglmpopijhaaGreatDoor.Num
namespace Go.Proofs.YtjebglmpopijhaaGreatDoor
section
open Go.RowKit
structure TV where
 kd : Int
 tx : ByteArray
 nm : Int
 at_ : Int
 nd : Int
 why : Int
 fa : Int
abbrev TV.val (t : TV) : Value := .tuple #[.agg #[.int .i64 t.kd, .string t.tx, .int .i64 t.nm, .int .i64 t.at_], .int .i64 t.nd, .agg #[.int .i64 t.why, .int .i64 t.fa]]
def resT (k : Nat) : Res → TV
 | .tok kd tx nm n => ⟨kd, ⟨tx.toArray⟩, nm, (k : Int), ((k + n : Nat) : Int), 0, 0⟩
 | .bad why o => ⟨0, ⟨#[]⟩, 0, 0, 0, why, ((k + o : Nat) : Int)⟩

theorem Qmd (k : Nat) (kd : Int) (u : ByteArray) (nm : Int) (n : Nat) : resT k (.tok kd u.data.toList nm n) = ⟨kd, u, nm, (k : Int), (k : Int) + (n : Int), 0, 0⟩ := by
 cases u; simp [resT]

abbrev tokZ : Obj := .cells #[.int .i64 0, .string ⟨#[]⟩, .int .i64 0, .int .i64 0] 49
abbrev fltZ : Obj := .cells #[.int .i64 0, .int .i64 0] 31
structure Boxes (w : World) (b c : Nat) : Prop where
 x0 : w.cell? ⟨b, 0, none⟩ = some (.int .i64 0)
 x1 : w.cell? ⟨b, 1, none⟩ = some (.string ⟨#[]⟩)
 x2 : w.cell? ⟨b, 2, none⟩ = some (.int .i64 0)
 x3 : w.cell? ⟨b, 3, none⟩ = some (.int .i64 0)
 y0 : w.cell? ⟨c, 0, none⟩ = some (.int .i64 0)
 y1 : w.cell? ⟨c, 1, none⟩ = some (.int .i64 0)
 fx : ∀ o, w.frozen? ⟨b, o, none⟩ = false
 fy : ∀ o, w.frozen? ⟨c, o, none⟩ = false
theorem Qdg (w : World) : Below w.heap.size w ((w.alloc tokZ).alloc fltZ) := ((Below.refl _ w).alloc (Nat.le_refl _) _).alloc (by simp) _
theorem Qaq {w w2 : World} (h : Below (w.heap.size + 2) ((w.alloc tokZ).alloc fltZ) w2) : Boxes w2 w.heap.size (w.heap.size + 1) := by
 have hb : w2.heap[w.heap.size]? = some tokZ := by
  rw [h.block _ (by omega), Lib.alloc_old (w.alloc tokZ) _ _ (by simp)]
  exact heap_alloc_new w _
 have hc : w2.heap[w.heap.size + 1]? = some fltZ := by
  rw [h.block _ (by omega)]
  have := heap_alloc_new (w.alloc tokZ) fltZ
  rwa [show (w.alloc tokZ).heap.size = w.heap.size + 1 by simp] at this
 exact ⟨by rw [Lib.cell_of_heap hb]; rfl, by rw [Lib.cell_of_heap hb]; rfl, by rw [Lib.cell_of_heap hb]; rfl, by rw [Lib.cell_of_heap hb]; rfl,
  by rw [Lib.cell_of_heap hc]; rfl, by rw [Lib.cell_of_heap hc]; rfl, fun o => Lib.frozen_of_heap hb o, fun o => Lib.frozen_of_heap hc o⟩
theorem Qan {B : Nat} {w w2 : World} (h : Below B w w2) {b c : Nat} (hb : B ≤ b) (hc : B ≤ c) (q0 q1 q2 q3 q4 q5 : Value) :
  Below B w ((((((w2.setCell ⟨b, 0, none⟩ q0).setCell ⟨b, 1, none⟩ q1).setCell ⟨b, 2, none⟩ q2).setCell ⟨b, 3, none⟩ q3).setCell ⟨c, 0, none⟩ q4).setCell ⟨c, 1, none⟩ q5) :=
 (((((h.setCell (p := ⟨b, 0, none⟩) hb q0).setCell (p := ⟨b, 1, none⟩) hb q1).setCell (p := ⟨b, 2, none⟩) hb q2).setCell (p := ⟨b, 3, none⟩) hb q3).setCell (p := ⟨c, 0, none⟩) hc q4).setCell (p := ⟨c, 1, none⟩) hc q5

theorem Qbz {a b : TV} (h : a = b) : Ending.returned a.val = .returned b.val := by rw [h]

theorem Qco (why a : Int) (w : World) :
  Calls Tryz.prog 122 #[.int .i64 why, .int .i64 a] w fun e w' => e = .returned (TV.val ⟨0, ⟨#[]⟩, 0, 0, 0, why, a⟩) ∧ Below w.heap.size w w' := by
 have hb := Qdg w
 go_enter Tryz.func122, Tryz.ntmps122
 go_wp2_with fail
 refine bodyPost_ret (v := TV.val ⟨0, ⟨#[]⟩, 0, 0, 0, why, a⟩) (by simp [results, Tryz.results122, go_sem]) rfl ?_
 exact ⟨rfl, ((Below.refl _ w).alloc (Nat.le_refl _) _).alloc (by simp) _⟩

theorem Qiq (s : ByteArray) (w : World) (hlim : s.size ≤ 140737488355328) :
  Calls Tryz.prog 123 #[.string s] w fun e w' => e = .returned (.string s) ∧ Below w.heap.size w w' := by
 have HC := hide (Tryz.stringslite_Clone s w (by omega))
 go_enter Tryz.func123, Tryz.ntmps123
 go_wp2_with fail
 refine (Qa HC).mono ?_
 rintro e w' ⟨rfl, hb⟩
 go_wp2_with fail
 go_ret
 exact ⟨rfl, hb⟩

theorem Qpo (s : ByteArray) (k : Nat) (hk : k ≤ s.size) (hs : s.size ≤ 65536) (w : World) :
  Calls Tryz.prog 99 #[.string s, .int .i64 (k : Int)] w fun e w' => e = .returned (resT k (nmRes (s.data.toList.drop k))).val ∧ Below w.heap.size w w' := by
 have hb := Qdg w
 have hle := Qpq (s.data.toList.drop k)
 rw [Qaw] at hle
 obtain ⟨n, hn⟩ : ∃ n, nmLen (s.data.toList.drop k) = n := ⟨_, rfl⟩
 have HE := hide (show ∀ w, Calls Tryz.prog 121 #[.string s, .int .i64 (k : Int)] w fun e w' => e = .returned (.int .i64 ((k : Int) + (n : Int))) ∧ w' = w by
  intro w; have := Qko s k hk (by omega) w; rw [hn] at this; simpa using this)
 rw [hn] at hle
 by_cases h64 : 64 < n
 ·
  have H := hide (show resT k (nmRes (s.data.toList.drop k)) = ⟨0, ⟨#[]⟩, 0, 0, 0, 2, (k : Int)⟩ by unfold nmRes; rw [hn, if_pos h64]; rfl)
  clear hn
  go_enter Tryz.func99, Tryz.ntmps99
  go_wp2_with fail
  refine (Qa HE _).mono ?_
  rintro e w1 ⟨rfl, rfl⟩
  go_wp2_with fail
  refine (Qco _ _ _).mono ?_
  rintro e w2 ⟨rfl, b2⟩
  have bx := Qaq (w := w) (w2 := w2) (by simpa using b2)
  have bw : Below w.heap.size w w2 := hb.trans (b2.mono (by simp; omega))
  obtain ⟨x0, x1, x2, x3, y0, y1, fx, fy⟩ := bx
  clear b2 hb
  go_wp2_with fail
  refine bodyPost_ret (v := TV.val ⟨0, ⟨#[]⟩, 0, 0, 0, 2, (k : Int)⟩) (by simp [results, Tryz.results99, go_sem, x0, x1, x2, x3, y0, y1]) rfl ?_
  exact ⟨Qbz (Qa H).symm, Qan bw (Nat.le_refl _) (Nat.le_succ _) _ _ _ _ _ _⟩
 have hrun := Qed s k n (k : Int) ((k : Int) + (n : Int)) rfl (by omega) (by omega)
 obtain ⟨u, hu⟩ : ∃ u, s.extract k (k + n) = u := ⟨_, rfl⟩
 have hul : u.data.toList = (s.data.toList.drop k).take n := by rw [← hu]; exact Qdz s k n
 have husz : u.size ≤ 140737488355328 := by rw [Qbb, hul, List.length_take]; omega
 rw [hu] at hrun
 have H := hide (show resT k (nmRes (s.data.toList.drop k)) = ⟨1, u, 0, (k : Int), (k : Int) + (n : Int), 0, 0⟩ by
  unfold nmRes; rw [hn, if_neg h64, ← hul]; exact Qmd k 1 u 0 n)
 clear hn hu hul
 go_enter Tryz.func99, Tryz.ntmps99
 go_wp2_with fail
 refine (Qa HE _).mono ?_
 rintro e w1 ⟨rfl, rfl⟩
 go_wp2_with fail
 refine (Qiq u _ husz).mono ?_
 rintro e w2 ⟨rfl, b2⟩
 have bx := Qaq (w := w) (w2 := w2) (by simpa using b2)
 have bw : Below w.heap.size w w2 := hb.trans (b2.mono (by simp; omega))
 obtain ⟨x0, x1, x2, x3, y0, y1, fx, fy⟩ := bx
 clear b2 hb
 go_wp2_with fail
 refine bodyPost_ret (v := TV.val ⟨1, u, 0, (k : Int), (k : Int) + (n : Int), 0, 0⟩) (by simp [results, Tryz.results99, go_sem, x0, x1, x2, x3, y0, y1]) rfl ?_
 exact ⟨Qbz (Qa H).symm, Qan bw (Nat.le_refl _) (Nat.le_succ _) _ _ _ _ _ _⟩
end
end Go.Proofs.YtjebglmpopijhaaGreatDoor
