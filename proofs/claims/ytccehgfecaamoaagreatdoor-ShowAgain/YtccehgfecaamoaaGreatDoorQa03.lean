/- Plain facts on numbers' texts: which lists of bytes are a number's text, which number that is, and that texts and numbers lead back to one another; no program stands in it. Walks of num.Parse and what it calls: it answers the plain function of the text's bytes. What a token's walk answers; walks of a fault, a copy, a name and a number. Walks of a number. -/
import Derived.Lib.Strings
import Derived.Lib.AtoiAll
import Derived.Test.YtccehgfecaamoaaGreatDoorQa02
import Derived.Test.YtccehgfecaamoaaGreatDoorChecked
import Derived.WalkKit
import Derived.ProofKit
set_option maxRecDepth 100000
set_option maxHeartbeats 32000000
namespace Go.Proofs.YtccehgfecaamoaaGreatDoor.Num
open Go.RowKit

def dig (c : UInt8) : Bool := decide (48 ≤ c.toNat) && decide (c.toNat ≤ 57)
def valFrom : Nat → List UInt8 → Nat
 | acc, [] => acc
 | acc, c :: r => valFrom (acc * 10 + (c.toNat - 48)) r
def trim (l : List UInt8) : List UInt8 := Lib.trimPrefix l [45]
def isNeg (l : List UInt8) : Bool := l.head? == some 45
def numForm (l : List UInt8) : Bool := l == [48] || (!(trim l).isEmpty && (trim l).head? != some 48 && (trim l).all dig)
def numVal (l : List UInt8) : Int := if isNeg l = true then -(valFrom 0 (trim l) : Int) else (valFrom 0 (trim l) : Int)
def parseP (l : List UInt8) : Int × Int :=
 if numForm l = true then (if -9223372036854775808 ≤ numVal l ∧ numVal l ≤ 9223372036854775807 then (numVal l, 0) else (0, 8)) else (0, 7)

theorem Qjs {c : UInt8} : dig c = true ↔ 48 ≤ c.toNat ∧ c.toNat ≤ 57 := by simp [dig]

theorem Qgs : ∀ (l : List UInt8) (acc : Nat), acc ≤ valFrom acc l
 | [], acc => Nat.le_refl _
 | x :: r, acc => by
  have := Qgs r (acc * 10 + (x.toNat - 48))
  have h2 : acc ≤ acc * 10 + (x.toNat - 48) := by omega
  exact Nat.le_trans h2 this

theorem trim_cases (l : List UInt8) : (isNeg l = true ∧ l = 45 :: trim l) ∨ (isNeg l = false ∧ trim l = l) := by
 unfold isNeg trim Lib.trimPrefix Lib.hasPrefix
 cases l with
 | nil => right; simp
 | cons c r =>
  by_cases h : c = 45
  · subst h; left; simp
  right
  have h2 : ¬ 45 = c := fun e => h e.symm
  simp [h, h2]

theorem Qpf : numForm [48] = true := by decide
theorem Qpe {l : List UInt8} (h : numForm l = true) : (trim l).all dig = true ∧ trim l ≠ [] := by
 unfold numForm at h
 simp only [Bool.or_eq_true, Bool.and_eq_true, beq_iff_eq] at h
 rcases h with rfl | ⟨⟨h1, _⟩, h3⟩
 · exact ⟨by decide, by decide⟩
 · exact ⟨h3, fun e => by rw [e] at h1; simp at h1⟩

theorem Qft (l : List UInt8) : ∀ (acc : Nat), l.all dig = true → acc < 18446744073709551616 →
  Lib.parseUint10 acc l = if valFrom acc l < 18446744073709551616 then .ok (valFrom acc l) else .range := by
 induction l with
 | nil =>
  intro acc _ ha
  have e : valFrom acc [] = acc := rfl
  rw [e, if_pos ha]
  rfl
 | cons c r ih =>
  intro acc h ha
  simp only [List.all_cons, Bool.and_eq_true] at h
  have hc := Qjs.1 h.1
  have hm := Qgs r (acc * 10 + (c.toNat - 48))
  have e : valFrom acc (c :: r) = valFrom (acc * 10 + (c.toNat - 48)) r := rfl
  rw [e, Lib.parseUint10, if_pos hc]
  by_cases h1 : 1844674407370955162 ≤ acc
  · rw [if_pos h1, if_neg (by omega)]
  rw [if_neg h1]
  by_cases h2 : 18446744073709551616 ≤ acc * 10 + (c.toNat - 48)
  · rw [if_pos h2, if_neg (by omega)]
  rw [if_neg h2]
  exact ih _ h.2 (by omega)

theorem Qid {l : List UInt8} (h : numForm l = true) :
  (Fits (numVal l) → Lib.atoiAll l = .ok (numVal l)) ∧ (¬ Fits (numVal l) → Lib.atoiAll l = .range) := by
 obtain ⟨hd, hne⟩ := Qpe h
 have hp := Qft (trim l) 0 hd (by omega)
 have hmag : Lib.parseMag (trim l) = if valFrom 0 (trim l) < 18446744073709551616 then .ok (valFrom 0 (trim l)) else .range := by
  unfold Lib.parseMag; rw [if_neg hne]; exact hp
 rcases trim_cases l with ⟨hn, hl⟩ | ⟨hn, hl⟩
 ·
  generalize htd : trim l = d at *
  unfold numVal Fits
  rw [hn, htd, if_pos rfl]
  generalize valFrom 0 d = v at *
  have e : Lib.atoiAll l = match Lib.parseMag d with
   | .ok u => if 9223372036854775808 < u then .range else .ok (-(u : Int))
   | x => x.rec (fun u => .ok (u : Int)) (Lib.atoiAll []) .range := by
   rw [hl]; unfold Lib.atoiAll
   simp
   cases Lib.parseMag d <;> simp
  rw [e, hmag]
  by_cases h1 : v < 18446744073709551616
  ·
   rw [if_pos h1]
   by_cases h2 : 9223372036854775808 < v
   · exact ⟨fun hf => absurd hf (by omega), fun _ => show (if 9223372036854775808 < v then Lib.NumEnd.range else .ok (-(v : Int))) = .range from if_pos h2⟩
   · exact ⟨fun _ => show (if 9223372036854775808 < v then Lib.NumEnd.range else .ok (-(v : Int))) = .ok (-(v : Int)) from if_neg h2, fun hf => absurd hf (by omega)⟩
  rw [if_neg h1]
  exact ⟨fun hf => absurd hf (by omega), fun _ => rfl⟩
 rw [hl] at hd hne hmag
 unfold numVal Fits
 rw [hn, hl, if_neg (by simp)]
 generalize hv : valFrom 0 l = v at *
 cases l with
 | nil => exact absurd rfl hne
 | cons c r =>
  have hc := Qjs.1 (by simpa using (List.all_eq_true.1 hd) c (by simp) : dig c = true)
  have h45 : ¬ c.toNat = 45 := by omega
  have h43 : ¬ (c.toNat = 43 ∨ c.toNat = 45) := by omega
  have e : Lib.atoiAll (c :: r) = match Lib.parseMag (c :: r) with
   | .ok u => if 9223372036854775808 ≤ u then .range else .ok (u : Int)
   | x => x.rec (fun u => .ok (u : Int)) (Lib.atoiAll []) .range := by
   unfold Lib.atoiAll
   simp only [if_neg h43]
   cases Lib.parseMag (c :: r) <;> simp [h45]
  rw [e, hmag]
  by_cases h1 : v < 18446744073709551616
  ·
   rw [if_pos h1]
   by_cases h2 : 9223372036854775808 ≤ v
   · exact ⟨fun hf => absurd hf (by omega), fun _ => show (if 9223372036854775808 ≤ v then Lib.NumEnd.range else .ok (v : Int)) = .range from if_pos h2⟩
   · exact ⟨fun _ => show (if 9223372036854775808 ≤ v then Lib.NumEnd.range else .ok (v : Int)) = .ok (v : Int) from if_neg h2, fun hf => absurd hf (by omega)⟩
  rw [if_neg h1]
  exact ⟨fun hf => absurd hf (by omega), fun _ => rfl⟩

theorem Qmt {l : List UInt8} (h : numForm l = false) : parseP l = (0, 7) := by unfold parseP; rw [if_neg (by simp [h])]
theorem parse_in {l : List UInt8} (h : numForm l = true) (hf : Fits (numVal l)) : parseP l = (numVal l, 0) := by unfold parseP; rw [if_pos h]; exact if_pos hf
theorem parse_out {l : List UInt8} (h : numForm l = true) (hf : ¬ Fits (numVal l)) : parseP l = (0, 8) := by unfold parseP; rw [if_pos h]; exact if_neg hf

/-! ### There and back -/
end Go.Proofs.YtccehgfecaamoaaGreatDoor.Num
namespace Go.Proofs.YtccehgfecaamoaaGreatDoor.Num
open Go.ChangeShapes Go.WideShapes Go.ChangeAt Go.RowKit

theorem Qga (s : ByteArray) (k : Nat) (h : k < s.size) : s.data.toList.take (k + 1) = s.data.toList.take k ++ [s[k]] := by
 rw [List.take_succ_eq_append_getElem (by simpa using h)]; rfl
theorem Qbk {a b : Bool} (h : a = b) : Ending.returned (.bool a) = .returned (.bool b) := by rw [h]
/-- 'All are digits', closed to the walk. -/
def allDig (l : List UInt8) : Bool := l.all dig
theorem Qrw {s : ByteArray} (h : allDig (s.data.toList.take s.size) = true) : allDig s.data.toList = true := by
 have e : s.data.toList.take s.size = s.data.toList := List.take_of_length_le (by rw [Array.length_toList]; exact Nat.le_refl _)
 rwa [e] at h
theorem Qby {l : List UInt8} {c : UInt8} (h : allDig l = true) (h1 : 48 ≤ (c.toNat : Int)) (h2 : (c.toNat : Int) ≤ 57) : allDig (l ++ [c]) = true := by
 unfold allDig at *
 rw [List.all_append, h]
 simp [dig]
 omega
theorem all_bad {s : ByteArray} {k : Nat} (hk : k < s.size) (h : ¬ (48 ≤ (s[k].toNat : Int) ∧ (s[k].toNat : Int) ≤ 57)) : allDig s.data.toList = false := by
 rw [Bool.eq_false_iff]
 intro ha
 have := Qjs.1 (List.all_eq_true.1 ha s[k] (by
  have : s[k] = s.data.toList[k]'(by simpa using hk) := rfl
  rw [this]; exact List.getElem_mem _))
 omega

set_option maxHeartbeats 400000 in
theorem Qgx (s : ByteArray) (w : World) (hs : s.size ≤ maxLen) :
  Calls Tryz.prog 136 #[.string s] w fun e w' => e = .returned (.bool (allDig s.data.toList)) ∧ w' = w := by
 unfold maxLen at hs
 go_enter Tryz.func136, Tryz.ntmps136
 go_wp2
 go_loop [6] (fun i => ∃ k : Nat, k ≤ s.size ∧ i = .int .i64 k ∧ Hid (allDig (s.data.toList.take k) = true)) (fun i => s.size - (intOf i).toNat)
 case atStart => exact ⟨0, Nat.zero_le _, rfl, rfl⟩
 obtain ⟨k, hk, rfl, hd⟩ := hrel
 by_cases hlt : k < s.size
 ·
  have hts : Hid (s.data.toList.take (k + 1) = s.data.toList.take k ++ [s[k]]) := Qga s k hlt
  have hbad : Hid (¬ (48 ≤ (s[k].toNat : Int) ∧ (s[k].toNat : Int) ≤ 57) → allDig s.data.toList = false) := all_bad hlt
  go_wp2
  ·
   go_ret
   exact ⟨Qbk (hbad.out (by omega)).symm, rfl⟩
  ·
   go_round
   case rel => exact ⟨k + 1, by omega, by go_num, by show allDig _ = true; rw [hts.out]; exact Qby hd.out (by omega) (by omega)⟩
   case measure => simp [intOf]; omega
  go_ret
  exact ⟨Qbk (hbad.out (by omega)).symm, rfl⟩
 go_wp2
 go_ret
 refine ⟨Qbk ?_, rfl⟩
 have : k = s.size := by omega
 subst this
 rw [Qrw hd.out]

theorem Qqv (l : List UInt8) : (⟨l.toArray⟩ : ByteArray).size = l.length := by simp [ByteArray.size]

theorem Qsh {l : List UInt8} (h0 : ¬ l = [48]) (h : trim l = []) : numForm l = false := by
 unfold numForm; rw [h]; simp [h0]
theorem Qmj {l r : List UInt8} (h0 : ¬ l = [48]) (h : trim l = 48 :: r) : numForm l = false := by
 unfold numForm; rw [h]; simp [h0]
theorem form_cons {l r : List UInt8} {c : UInt8} (h0 : ¬ l = [48]) (h : trim l = c :: r) (hc : ¬ c = 48) : numForm l = allDig (c :: r) := by
 have e1 : (l == [48]) = false := beq_eq_false_iff_ne.2 h0
 have e2 : ((some c : Option UInt8) != some 48) = true := bne_iff_ne.2 fun e => hc (Option.some.inj e)
 unfold numForm allDig
 rw [h]
 simp only [List.isEmpty_cons, List.head?_cons, e1, e2]
 simp
theorem trim_le (l : List UInt8) : (trim l).length ≤ l.length := by
 rcases trim_cases l with ⟨_, h⟩ | ⟨_, h⟩
 ·
  have := congrArg List.length h
  simp at this; omega
 · rw [h]; exact Nat.le_refl _
theorem not48 {c : UInt8} (h : ¬ c = 48) : ¬ (c.toNat : Int) = 48 := fun e => h (UInt8.toNat_inj.1 (by
 have : c.toNat = 48 := by omega
 rw [this]; rfl))

set_option maxHeartbeats 400000 in
theorem Qel (s : ByteArray) (w : World) (hs : s.size ≤ maxLen) :
  Calls Tryz.prog 107 #[.string s] w fun e w' => e = .returned (.bool (numForm s.data.toList)) ∧ w' = w := by
 by_cases h0 : s.data.toList = [48]
 ·
  have e0 : (s.toList == [48]) = true := by rw [Lib.toList_data, h0]; rfl
  have H : Hid (numForm s.data.toList = true) := by rw [h0]; exact Qpf
  clear h0
  go_enter Tryz.func107, Tryz.ntmps107
  go_wp2
  go_ret
  exact ⟨Qbk H.out.symm, rfl⟩
 have e0 : (s.toList == [48]) = false := by rw [Lib.toList_data, beq_eq_false_iff_ne]; exact h0
 cases ht : trim s.data.toList with
 | nil =>
  have H : Hid (numForm s.data.toList = false) := Qsh h0 ht
  have ht' : Lib.trimPrefix s.data.toList [45] = [] := ht
  clear h0 ht
  go_enter Tryz.func107, Tryz.ntmps107
  go_wp2_with (go_at_call 135; refine (Tryz.strings_TrimPrefix _ _ _).mono ?_; rintro e w' ⟨rfl, rfl⟩)
  go_ret
  exact ⟨Qbk H.out.symm, rfl⟩
 | cons c r =>
  have ht' : Lib.trimPrefix s.data.toList [45] = c :: r := ht
  by_cases hc : c = 48
  ·
   have H : Hid (numForm s.data.toList = false) := by subst hc; exact Qmj h0 ht
   subst hc
   clear h0 ht
   go_enter Tryz.func107, Tryz.ntmps107
   go_wp2_with (go_at_call 135; refine (Tryz.strings_TrimPrefix _ _ _).mono ?_; rintro e w' ⟨rfl, rfl⟩)
   go_ret
   exact ⟨Qbk H.out.symm, rfl⟩
  have H : Hid (numForm s.data.toList = allDig (c :: r)) := form_cons h0 ht hc
  have hlen : (⟨(c :: r).toArray⟩ : ByteArray).size ≤ maxLen := by
   have := trim_le s.data.toList
   rw [ht] at this
   rw [Qqv]
   have e : s.size = s.data.toList.length := Lib.size_eq s
   omega
  have h48 := not48 hc
  clear h0 ht hc
  go_enter Tryz.func107, Tryz.ntmps107
  go_wp2_with (first
   | (go_at_call 135; refine (Tryz.strings_TrimPrefix _ _ _).mono ?_; rintro e w' ⟨rfl, rfl⟩)
   | (go_at_call 136; refine (Qgx ⟨(c :: r).toArray⟩ _ hlen).mono ?_; rintro e w' ⟨rfl, rfl⟩))
  go_ret
  refine ⟨Qbk ?_, rfl⟩
  rw [H.out]
  show ((c.toNat : Int) != 48 && allDig (c :: r)) = allDig (c :: r)
  rw [bne_iff_ne.2 h48]
  rfl

set_option maxHeartbeats 400000 in
theorem parse_any (s : ByteArray) (w : World) (hlim : s.size ≤ 281474976710656) {t1 : TypeId} {p1 : Value}
  (hv1 : w.var? Tryz.prog "strconv.ErrRange" = some #[.iface t1 p1]) :
  Calls Tryz.prog 88 #[.string s] w fun e w' => e = .returned (.tuple #[.int .i64 (parseP s.data.toList).1, .int .i64 (parseP s.data.toList).2]) ∧ Below w.heap.size w w' := by
 have hm : s.size ≤ maxLen := by unfold maxLen; omega
 have V1 : Hid (w.var? Tryz.prog "strconv.ErrRange" = some #[.iface t1 p1]) := hv1
 clear hv1
 cases hf : numForm s.data.toList with
 | false =>
  have H : Hid (parseP s.data.toList = (0, 7)) := Qmt hf
  go_enter Tryz.func88, Tryz.ntmps88
  go_wp2_with (go_at_call 107; refine (Qel _ _ hm).mono ?_; rintro e w' ⟨rfl, rfl⟩)
  go_ret2
  exact ⟨ret2 H.out, Below.refl _ _⟩
 | true =>
  by_cases hr : Fits (numVal s.data.toList)
  ·
   have H : Hid (parseP s.data.toList = (numVal s.data.toList, 0)) := parse_in hf hr
   have A : Hid (Lib.atoiAll s.data.toList = .ok (numVal s.data.toList)) := (Qid hf).1 hr
   clear hr
   go_enter Tryz.func88, Tryz.ntmps88
   go_wp2_with (first
    | (go_at_call 107; refine (Qel _ _ hm).mono ?_; rintro e w' ⟨rfl, rfl⟩)
    | (go_at_call 108; refine (Tryz.atoi_ok s (by omega) _ A.out _).mono ?_; rintro e w1 ⟨rfl, hw⟩))
   go_ret2
   exact ⟨ret2 H.out, hw⟩
  have H : Hid (parseP s.data.toList = (0, 8)) := parse_out hf hr
  have A : Hid (Lib.atoiAll s.data.toList = .range) := (Qid hf).2 hr
  clear hr
  go_enter Tryz.func88, Tryz.ntmps88
  go_wp2_with (first
   | (go_at_call 107; refine (Qel _ _ hm).mono ?_; rintro e w' ⟨rfl, rfl⟩)
   | (go_at_call 108; refine (Tryz.atoi_range s hlim A.out _ _ _ V1.out).mono ?_; rintro e w1 ⟨⟨N, rfl⟩, hw⟩))
  go_ret2
  exact ⟨ret2 H.out, hw⟩
end Go.Proofs.YtccehgfecaamoaaGreatDoor.Num
namespace Go.Proofs.YtccehgfecaamoaaGreatDoor
section
open Go.RowKit
structure TV where
 kd : Int
 tx : ByteArray
 nm : Int
 at_ : Int
 nd : Int
 why : Int
 fa : Int
abbrev TV.val (t : TV) : Value := .tuple #[.agg #[.int .i64 t.kd, .string t.tx, .int .i64 t.nm, .int .i64 t.at_], .int .i64 t.nd, .agg #[.int .i64 t.why, .int .i64 t.fa]]
def resT (k : Nat) : Res → TV
 | .tok kd tx nm n => ⟨kd, ⟨tx.toArray⟩, nm, (k : Int), ((k + n : Nat) : Int), 0, 0⟩
 | .bad why o => ⟨0, ⟨#[]⟩, 0, 0, 0, why, ((k + o : Nat) : Int)⟩

theorem Qlx (k : Nat) (kd : Int) (u : ByteArray) (nm : Int) (n : Nat) : resT k (.tok kd u.data.toList nm n) = ⟨kd, u, nm, (k : Int), (k : Int) + (n : Int), 0, 0⟩ := by
 cases u; simp [resT]

abbrev tokZ : Obj := .cells #[.int .i64 0, .string ⟨#[]⟩, .int .i64 0, .int .i64 0] 83
abbrev fltZ : Obj := .cells #[.int .i64 0, .int .i64 0] 31
structure Boxes (w : World) (b c : Nat) : Prop where
 x0 : w.cell? ⟨b, 0, none⟩ = some (.int .i64 0)
 x1 : w.cell? ⟨b, 1, none⟩ = some (.string ⟨#[]⟩)
 x2 : w.cell? ⟨b, 2, none⟩ = some (.int .i64 0)
 x3 : w.cell? ⟨b, 3, none⟩ = some (.int .i64 0)
 y0 : w.cell? ⟨c, 0, none⟩ = some (.int .i64 0)
 y1 : w.cell? ⟨c, 1, none⟩ = some (.int .i64 0)
 fx : ∀ o, w.frozen? ⟨b, o, none⟩ = false
 fy : ∀ o, w.frozen? ⟨c, o, none⟩ = false
theorem Qdm (w : World) : Below w.heap.size w ((w.alloc tokZ).alloc fltZ) := ((Below.refl _ w).alloc (Nat.le_refl _) _).alloc (by simp) _
theorem Qal {w w2 : World} (h : Below (w.heap.size + 2) ((w.alloc tokZ).alloc fltZ) w2) : Boxes w2 w.heap.size (w.heap.size + 1) := by
 have hb : w2.heap[w.heap.size]? = some tokZ := by
  rw [h.block _ (by omega), Lib.alloc_old (w.alloc tokZ) _ _ (by simp)]
  exact heap_alloc_new w _
 have hc : w2.heap[w.heap.size + 1]? = some fltZ := by
  rw [h.block _ (by omega)]
  have := heap_alloc_new (w.alloc tokZ) fltZ
  rwa [show (w.alloc tokZ).heap.size = w.heap.size + 1 by simp] at this
 exact ⟨by rw [Lib.cell_of_heap hb]; rfl, by rw [Lib.cell_of_heap hb]; rfl, by rw [Lib.cell_of_heap hb]; rfl, by rw [Lib.cell_of_heap hb]; rfl,
  by rw [Lib.cell_of_heap hc]; rfl, by rw [Lib.cell_of_heap hc]; rfl, fun o => Lib.frozen_of_heap hb o, fun o => Lib.frozen_of_heap hc o⟩
theorem Qah {B : Nat} {w w2 : World} (h : Below B w w2) {b c : Nat} (hb : B ≤ b) (hc : B ≤ c) (q0 q1 q2 q3 q4 q5 : Value) :
  Below B w ((((((w2.setCell ⟨b, 0, none⟩ q0).setCell ⟨b, 1, none⟩ q1).setCell ⟨b, 2, none⟩ q2).setCell ⟨b, 3, none⟩ q3).setCell ⟨c, 0, none⟩ q4).setCell ⟨c, 1, none⟩ q5) :=
 (((((h.setCell (p := ⟨b, 0, none⟩) hb q0).setCell (p := ⟨b, 1, none⟩) hb q1).setCell (p := ⟨b, 2, none⟩) hb q2).setCell (p := ⟨b, 3, none⟩) hb q3).setCell (p := ⟨c, 0, none⟩) hc q4).setCell (p := ⟨c, 1, none⟩) hc q5

theorem Qcn {a b : TV} (h : a = b) : Ending.returned a.val = .returned b.val := by rw [h]

theorem Qcb (why a : Int) (w : World) :
  Calls Tryz.prog 84 #[.int .i64 why, .int .i64 a] w fun e w' => e = .returned (TV.val ⟨0, ⟨#[]⟩, 0, 0, 0, why, a⟩) ∧ Below w.heap.size w w' := by
 have hb := Qdm w
 go_enter Tryz.func84, Tryz.ntmps84
 go_wp2_with fail
 refine bodyPost_ret (v := TV.val ⟨0, ⟨#[]⟩, 0, 0, 0, why, a⟩) (by simp [results, Tryz.results84, go_sem]) rfl ?_
 exact ⟨rfl, ((Below.refl _ w).alloc (Nat.le_refl _) _).alloc (by simp) _⟩

theorem Qih (s : ByteArray) (w : World) (hlim : s.size ≤ 140737488355328) :
  Calls Tryz.prog 85 #[.string s] w fun e w' => e = .returned (.string s) ∧ Below w.heap.size w w' := by
 have HC := hide (Tryz.stringslite_Clone s w (by omega))
 go_enter Tryz.func85, Tryz.ntmps85
 go_wp2_with fail
 refine (Qa HC).mono ?_
 rintro e w' ⟨rfl, hb⟩
 go_wp2_with fail
 go_ret
 exact ⟨rfl, hb⟩

theorem Qqi (s : ByteArray) (k : Nat) (hk : k ≤ s.size) (hs : s.size ≤ 65536) (w : World) :
  Calls Tryz.prog 55 #[.string s, .int .i64 (k : Int)] w fun e w' => e = .returned (resT k (nmRes (s.data.toList.drop k))).val ∧ Below w.heap.size w w' := by
 have hb := Qdm w
 have hle := Qsn (s.data.toList.drop k)
 rw [Qca] at hle
 obtain ⟨n, hn⟩ : ∃ n, nmLen (s.data.toList.drop k) = n := ⟨_, rfl⟩
 have HE := hide (show ∀ w, Calls Tryz.prog 83 #[.string s, .int .i64 (k : Int)] w fun e w' => e = .returned (.int .i64 ((k : Int) + (n : Int))) ∧ w' = w by
  intro w; have := Qk s k hk (by omega) w; rw [hn] at this; simpa using this)
 rw [hn] at hle
 by_cases h64 : 64 < n
 ·
  have H := hide (show resT k (nmRes (s.data.toList.drop k)) = ⟨0, ⟨#[]⟩, 0, 0, 0, 2, (k : Int)⟩ by unfold nmRes; rw [hn, if_pos h64]; rfl)
  clear hn
  go_enter Tryz.func55, Tryz.ntmps55
  go_wp2_with fail
  refine (Qa HE _).mono ?_
  rintro e w1 ⟨rfl, rfl⟩
  go_wp2_with fail
  refine (Qcb _ _ _).mono ?_
  rintro e w2 ⟨rfl, b2⟩
  have bx := Qal (w := w) (w2 := w2) (by simpa using b2)
  have bw : Below w.heap.size w w2 := hb.trans (b2.mono (by simp; omega))
  obtain ⟨x0, x1, x2, x3, y0, y1, fx, fy⟩ := bx
  clear b2 hb
  go_wp2_with fail
  refine bodyPost_ret (v := TV.val ⟨0, ⟨#[]⟩, 0, 0, 0, 2, (k : Int)⟩) (by simp [results, Tryz.results55, go_sem, x0, x1, x2, x3, y0, y1]) rfl ?_
  exact ⟨Qcn (Qa H).symm, Qah bw (Nat.le_refl _) (Nat.le_succ _) _ _ _ _ _ _⟩
 have hrun := Qfw s k n (k : Int) ((k : Int) + (n : Int)) rfl (by omega) (by omega)
 obtain ⟨u, hu⟩ : ∃ u, s.extract k (k + n) = u := ⟨_, rfl⟩
 have hul : u.data.toList = (s.data.toList.drop k).take n := by rw [← hu]; exact Qfm s k n
 have husz : u.size ≤ 140737488355328 := by rw [Qbb, hul, List.length_take]; omega
 rw [hu] at hrun
 have H := hide (show resT k (nmRes (s.data.toList.drop k)) = ⟨1, u, 0, (k : Int), (k : Int) + (n : Int), 0, 0⟩ by
  unfold nmRes; rw [hn, if_neg h64, ← hul]; exact Qlx k 1 u 0 n)
 clear hn hu hul
 go_enter Tryz.func55, Tryz.ntmps55
 go_wp2_with fail
 refine (Qa HE _).mono ?_
 rintro e w1 ⟨rfl, rfl⟩
 go_wp2_with fail
 refine (Qih u _ husz).mono ?_
 rintro e w2 ⟨rfl, b2⟩
 have bx := Qal (w := w) (w2 := w2) (by simpa using b2)
 have bw : Below w.heap.size w w2 := hb.trans (b2.mono (by simp; omega))
 obtain ⟨x0, x1, x2, x3, y0, y1, fx, fy⟩ := bx
 clear b2 hb
 go_wp2_with fail
 refine bodyPost_ret (v := TV.val ⟨1, u, 0, (k : Int), (k : Int) + (n : Int), 0, 0⟩) (by simp [results, Tryz.results55, go_sem, x0, x1, x2, x3, y0, y1]) rfl ?_
 exact ⟨Qcn (Qa H).symm, Qah bw (Nat.le_refl _) (Nat.le_succ _) _ _ _ _ _ _⟩
end
section
open Go.RowKit
theorem Qjo {w w' : World} {name : String} {x : Array Value} (h : w.var? Tryz.prog name = some x) (hb : Below w.heap.size w w') : w'.var? Tryz.prog name = some x := by
 unfold World.var? at *
 cases hg : Tryz.prog.globalNamed name with
 | none => rw [hg] at h; simp at h
 | some g =>
  rw [hg] at h
  simp only [Option.bind_some] at h ⊢
  by_cases hlt : g < w.heap.size
  · rw [hb.block g hlt]; exact h
  rw [Array.getElem?_eq_none (by omega)] at h
  simp at h

theorem vl_eq : ∀ (l : Txt) (acc : Nat), vl acc l = Num.valFrom acc l
 | [], _ => rfl
 | _ :: l, _ => vl_eq l _
theorem dig_D {c : UInt8} (h : isD (bv c) = true) : Num.dig c = true := by
 unfold isD bv at h
 unfold Num.dig
 simp only [Bool.and_eq_true, decide_eq_true_eq] at h ⊢
 omega
theorem Qlc : ∀ r : Txt, (r.take (dcn r)).all Num.dig = true
 | [] => rfl
 | c :: t => by
  cases h : isD (bv c) with
  | true =>
   have e : dcn (c :: t) = dcn t + 1 := by simp [dcn, h]
   rw [e, List.take_succ_cons, List.all_cons, dig_D h, Qlc t]; rfl
  | false =>
   have e : dcn (c :: t) = 0 := by simp [dcn, h]
   rw [e]; rfl
theorem dg_form {c : UInt8} {t : Txt} (h : isD (bv c) = true) :
  Num.numForm ((c :: t).take (dgLen (c :: t))) = true ∧ Num.numVal ((c :: t).take (dgLen (c :: t))) = (vl 0 ((c :: t).take (dgLen (c :: t))) : Int) := by
 by_cases h0 : c = 48
 ·
  subst h0
  have e : dgLen (48 :: t) = 1 := by rw [Qei, if_pos rfl]
  rw [e, show (48 :: t).take 1 = [48] from rfl]
  exact ⟨by decide, by decide⟩
 have e : dgLen (c :: t) = dcn (c :: t) := by rw [Qei, if_neg h0]
 have e2 : dcn (c :: t) = dcn t + 1 := by simp [dcn, h]
 rw [e]
 have hall := Qlc (c :: t)
 rw [e2, List.take_succ_cons] at hall ⊢
 have hc : ¬ c = 45 := by rintro rfl; exact absurd h (by decide)
 have hn : Num.isNeg (c :: t.take (dcn t)) = false := by simp [Num.isNeg, hc]
 have ht : Num.trim (c :: t.take (dcn t)) = c :: t.take (dcn t) := by
  rcases Num.trim_cases (c :: t.take (dcn t)) with h | h
  · rw [hn] at h; exact absurd h.1 (by simp)
  · exact h.2
 refine ⟨?_, ?_⟩
 ·
  by_cases hz : (c :: t.take (dcn t)) = [48]
  · exact absurd (by injection hz) h0
  · rw [Num.form_cons hz ht h0]; exact hall
 unfold Num.numVal
 rw [hn, ht, vl_eq]; rfl
theorem Qsd {c : UInt8} {t : Txt} (h : isD (bv c) = true) : Num.parseP ((c :: t).take (dgLen (c :: t))) =
  if 9223372036854775807 < vl 0 ((c :: t).take (dgLen (c :: t))) then (0, 8) else ((vl 0 ((c :: t).take (dgLen (c :: t))) : Int), 0) := by
 obtain ⟨h1, h2⟩ := dg_form (t := t) h
 split
 ·
  rename_i hv
  exact Num.parse_out h1 (by rw [h2]; unfold Num.Fits; omega)
 rename_i hv
 rw [Num.parse_in h1 (by rw [h2]; unfold Num.Fits; omega), h2]

theorem Qui {s : ByteArray} {m : Nat} (h : m < s.size) : noW (s.data.toList.drop m) = !inW (bv s[m]) := by rw [Qaq s m h]; rfl

theorem Qkb (s : ByteArray) (k : Nat) (hk : k < s.size) (hd : isD (bv s[k]) = true) (hs : s.size ≤ 65536) (w : World) {t1 : TypeId} {p1 : Value}
  (hv1 : w.var? Tryz.prog "strconv.ErrRange" = some #[.iface t1 p1]) :
  Calls Tryz.prog 57 #[.string s, .int .i64 (k : Int)] w fun e w' => e = .returned (resT k (dgRes (s.data.toList.drop k))).val ∧ Below w.heap.size w w' := by
 have hb := Qdm w
 have HV := hide (Qjo hv1 hb)
 clear hv1
 have hle := dg_le (s.data.toList.drop k)
 rw [Qca] at hle
 have hP := Qsd (t := s.data.toList.drop (k + 1)) hd
 rw [← Qaq s k hk] at hP
 obtain ⟨n, hn⟩ : ∃ n, dgLen (s.data.toList.drop k) = n := ⟨_, rfl⟩
 have HE := hide (show ∀ w, Calls Tryz.prog 86 #[.string s, .int .i64 (k : Int)] w fun e w' => e = .returned (.int .i64 ((k : Int) + (n : Int))) ∧ w' = w by
  intro w; have := Qhg s k hk (by omega) w; rw [hn] at this; simpa using this)
 rw [hn] at hle hP
 have hrun := Qfw s k n (k : Int) ((k : Int) + (n : Int)) rfl (by omega) (by omega)
 obtain ⟨u, hu⟩ : ∃ u, s.extract k (k + n) = u := ⟨_, rfl⟩
 have hul : u.data.toList = (s.data.toList.drop k).take n := by rw [← hu]; exact Qfm s k n
 have husz : u.size ≤ 281474976710656 := by rw [Qbb, hul, List.length_take]; omega
 rw [hu] at hrun
 rw [← hul] at hP
 have HR := hide (show dgRes (s.data.toList.drop k) = if noW (s.data.toList.drop (k + n)) = false then .bad 7 n else if 9223372036854775807 < vl 0 u.data.toList then .bad 8 0 else .tok 2 [] (vl 0 u.data.toList) n by
  unfold dgRes; rw [hn, hul, List.drop_drop])
 clear hu hul hn
 have HP := hide hP
 clear hP
 by_cases hend : k + n < s.size
 ·
  cases hw : inW (s[k + n].toNat : Int) with
  | true =>
   have H := hide (show resT k (dgRes (s.data.toList.drop k)) = ⟨0, ⟨#[]⟩, 0, 0, 0, 7, (k : Int) + (n : Int)⟩ by
    rw [Qa HR, if_pos (by rw [Qui hend, show inW (bv s[k + n]) = true from hw]; rfl)]; simp [resT])
   clear HR
   go_enter Tryz.func57, Tryz.ntmps57
   go_wp2_with fail
   refine (Qa HE _).mono ?_
   rintro e w1 ⟨rfl, rfl⟩
   go_wp2_with fail
   refine (Qap _ _).mono ?_
   rintro e w1 ⟨rfl, rfl⟩
   rw [hw]
   go_wp2_with fail
   refine (Qcb _ _ _).mono ?_
   rintro e w2 ⟨rfl, b2⟩
   have bx := Qal (w := w) (w2 := w2) (by simpa using b2)
   have bw : Below w.heap.size w w2 := hb.trans (b2.mono (by simp; omega))
   obtain ⟨x0, x1, x2, x3, y0, y1, fx, fy⟩ := bx
   clear b2 hb
   go_wp2_with fail
   refine bodyPost_ret (v := TV.val ⟨0, ⟨#[]⟩, 0, 0, 0, 7, (k : Int) + (n : Int)⟩) (by simp [results, Tryz.results57, go_sem, x0, x1, x2, x3, y0, y1]) rfl ?_
   exact ⟨Qcn (Qa H).symm, Qah bw (Nat.le_refl _) (Nat.le_succ _) _ _ _ _ _ _⟩
  | false =>
   have hno : noW (s.data.toList.drop (k + n)) = true := by rw [Qui hend, show inW (bv s[k + n]) = false from hw]; rfl
   by_cases hv : 9223372036854775807 < vl 0 u.data.toList
   ·
    have H := hide (show resT k (dgRes (s.data.toList.drop k)) = ⟨0, ⟨#[]⟩, 0, 0, 0, 8, (k : Int)⟩ by
     rw [Qa HR, if_neg (by rw [hno]; simp), if_pos hv]; simp [resT])
    have HQ := hide (show Num.parseP u.data.toList = (0, 8) by rw [Qa HP, if_pos hv])
    clear HR HP hno hv
    go_enter Tryz.func57, Tryz.ntmps57
    go_wp2_with fail
    refine (Qa HE _).mono ?_
    rintro e w1 ⟨rfl, rfl⟩
    go_wp2_with fail
    refine (Qap _ _).mono ?_
    rintro e w1 ⟨rfl, rfl⟩
    rw [hw]
    go_wp2_with fail
    refine (Num.parse_any u _ husz (Qa HV)).mono ?_
    rintro e w1 ⟨rfl, b1⟩
    rw [Qa HQ]
    go_wp2_with fail
    refine (Qcb _ _ _).mono ?_
    rintro e w2 ⟨rfl, b2'⟩
    have b2 := b1.trans (b2'.mono b1.size)
    clear b1 b2'
    have bx := Qal (w := w) (w2 := w2) (by simpa using b2)
    have bw : Below w.heap.size w w2 := hb.trans (b2.mono (by simp; omega))
    obtain ⟨x0, x1, x2, x3, y0, y1, fx, fy⟩ := bx
    clear b2 hb
    go_wp2_with fail
    refine bodyPost_ret (v := TV.val ⟨0, ⟨#[]⟩, 0, 0, 0, 8, (k : Int)⟩) (by simp [results, Tryz.results57, go_sem, x0, x1, x2, x3, y0, y1]) rfl ?_
    exact ⟨Qcn (Qa H).symm, Qah bw (Nat.le_refl _) (Nat.le_succ _) _ _ _ _ _ _⟩
   have H := hide (show resT k (dgRes (s.data.toList.drop k)) = ⟨2, ⟨#[]⟩, (vl 0 u.data.toList : Int), (k : Int), (k : Int) + (n : Int), 0, 0⟩ by
    rw [Qa HR, if_neg (by rw [hno]; simp), if_neg hv]; simp [resT])
   have HQ := hide (show Num.parseP u.data.toList = ((vl 0 u.data.toList : Int), 0) by rw [Qa HP, if_neg hv])
   clear HR HP hno hv
   go_enter Tryz.func57, Tryz.ntmps57
   go_wp2_with fail
   refine (Qa HE _).mono ?_
   rintro e w1 ⟨rfl, rfl⟩
   go_wp2_with fail
   refine (Qap _ _).mono ?_
   rintro e w1 ⟨rfl, rfl⟩
   rw [hw]
   go_wp2_with fail
   refine (Num.parse_any u _ husz (Qa HV)).mono ?_
   rintro e w2 ⟨rfl, b2⟩
   rw [Qa HQ]
   obtain ⟨vv, hvv⟩ : ∃ vv : Int, (vl 0 u.data.toList : Int) = vv := ⟨_, rfl⟩
   rw [hvv] at H ⊢
   clear hvv HQ
   have bx := Qal (w := w) (w2 := w2) (by simpa using b2)
   have bw : Below w.heap.size w w2 := hb.trans (b2.mono (by simp; omega))
   obtain ⟨x0, x1, x2, x3, y0, y1, fx, fy⟩ := bx
   clear b2 hb
   go_wp2_with fail
   refine bodyPost_ret (v := TV.val ⟨2, ⟨#[]⟩, vv, (k : Int), (k : Int) + (n : Int), 0, 0⟩) (by simp [results, Tryz.results57, go_sem, x0, x1, x2, x3, y0, y1]) rfl ?_
   exact ⟨Qcn (Qa H).symm, Qah bw (Nat.le_refl _) (Nat.le_succ _) _ _ _ _ _ _⟩
 have hno : noW (s.data.toList.drop (k + n)) = true := by rw [Qck s (k + n) (by omega)]; rfl
 by_cases hv : 9223372036854775807 < vl 0 u.data.toList
 ·
  have H := hide (show resT k (dgRes (s.data.toList.drop k)) = ⟨0, ⟨#[]⟩, 0, 0, 0, 8, (k : Int)⟩ by
   rw [Qa HR, if_neg (by rw [hno]; simp), if_pos hv]; simp [resT])
  have HQ := hide (show Num.parseP u.data.toList = (0, 8) by rw [Qa HP, if_pos hv])
  clear HR HP hno hv
  go_enter Tryz.func57, Tryz.ntmps57
  go_wp2_with fail
  refine (Qa HE _).mono ?_
  rintro e w1 ⟨rfl, rfl⟩
  go_wp2_with fail
  refine (Num.parse_any u _ husz (Qa HV)).mono ?_
  rintro e w1 ⟨rfl, b1⟩
  rw [Qa HQ]
  go_wp2_with fail
  refine (Qcb _ _ _).mono ?_
  rintro e w2 ⟨rfl, b2'⟩
  have b2 := b1.trans (b2'.mono b1.size)
  clear b1 b2'
  have bx := Qal (w := w) (w2 := w2) (by simpa using b2)
  have bw : Below w.heap.size w w2 := hb.trans (b2.mono (by simp; omega))
  obtain ⟨x0, x1, x2, x3, y0, y1, fx, fy⟩ := bx
  clear b2 hb
  go_wp2_with fail
  refine bodyPost_ret (v := TV.val ⟨0, ⟨#[]⟩, 0, 0, 0, 8, (k : Int)⟩) (by simp [results, Tryz.results57, go_sem, x0, x1, x2, x3, y0, y1]) rfl ?_
  exact ⟨Qcn (Qa H).symm, Qah bw (Nat.le_refl _) (Nat.le_succ _) _ _ _ _ _ _⟩
 have H := hide (show resT k (dgRes (s.data.toList.drop k)) = ⟨2, ⟨#[]⟩, (vl 0 u.data.toList : Int), (k : Int), (k : Int) + (n : Int), 0, 0⟩ by
  rw [Qa HR, if_neg (by rw [hno]; simp), if_neg hv]; simp [resT])
 have HQ := hide (show Num.parseP u.data.toList = ((vl 0 u.data.toList : Int), 0) by rw [Qa HP, if_neg hv])
 clear HR HP hno hv
 go_enter Tryz.func57, Tryz.ntmps57
 go_wp2_with fail
 refine (Qa HE _).mono ?_
 rintro e w1 ⟨rfl, rfl⟩
 go_wp2_with fail
 refine (Num.parse_any u _ husz (Qa HV)).mono ?_
 rintro e w2 ⟨rfl, b2⟩
 rw [Qa HQ]
 obtain ⟨vv, hvv⟩ : ∃ vv : Int, (vl 0 u.data.toList : Int) = vv := ⟨_, rfl⟩
 rw [hvv] at H ⊢
 clear hvv HQ
 have bx := Qal (w := w) (w2 := w2) (by simpa using b2)
 have bw : Below w.heap.size w w2 := hb.trans (b2.mono (by simp; omega))
 obtain ⟨x0, x1, x2, x3, y0, y1, fx, fy⟩ := bx
 clear b2 hb
 go_wp2_with fail
 refine bodyPost_ret (v := TV.val ⟨2, ⟨#[]⟩, vv, (k : Int), (k : Int) + (n : Int), 0, 0⟩) (by simp [results, Tryz.results57, go_sem, x0, x1, x2, x3, y0, y1]) rfl ?_
 exact ⟨Qcn (Qa H).symm, Qah bw (Nat.le_refl _) (Nat.le_succ _) _ _ _ _ _ _⟩
end
end Go.Proofs.YtccehgfecaamoaaGreatDoor
