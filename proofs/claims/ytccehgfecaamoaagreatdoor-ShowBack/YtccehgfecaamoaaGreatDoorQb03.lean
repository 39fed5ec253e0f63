/- Walks of num.Parse and what it calls: it answers the plain function of the text's bytes. What a token's walk answers; walks of a fault, a copy, a name and a number. Walks of a number. Walk of a text between quotes. -/
import Derived.Test.YtccehgfecaamoaaGreatDoorChecked
import Derived.Test.YtccehgfecaamoaaGreatDoorQb02
import Derived.WalkKit
import Derived.ProofKit
import Derived.Laws.AppendOwnNone
import Derived.Deep.AppendLies
import Derived.WalkSpells
set_option maxRecDepth 100000
set_option maxHeartbeats 32000000
namespace Go.Proofs.YtccehgfecaamoaaGreatDoor.Num
open Go.ChangeShapes Go.WideShapes Go.ChangeAt Go.RowKit

theorem Qja (s : ByteArray) (k : Nat) (h : k < s.size) : s.data.toList.take (k + 1) = s.data.toList.take k ++ [s[k]] := by
 rw [List.take_succ_eq_append_getElem (by simpa using h)]; rfl
theorem Qcf {a b : Bool} (h : a = b) : Ending.returned (.bool a) = .returned (.bool b) := by rw [h]
/-- 'All are digits', closed to the walk. -/
def allDig (l : List UInt8) : Bool := l.all dig
theorem Qzu {s : ByteArray} (h : allDig (s.data.toList.take s.size) = true) : allDig s.data.toList = true := by
 have e : s.data.toList.take s.size = s.data.toList := List.take_of_length_le (by rw [Array.length_toList]; exact Nat.le_refl _)
 rwa [e] at h
theorem Qbc {l : List UInt8} {c : UInt8} (h : allDig l = true) (h1 : 48 ≤ (c.toNat : Int)) (h2 : (c.toNat : Int) ≤ 57) : allDig (l ++ [c]) = true := by
 unfold allDig at *
 rw [List.all_append, h]
 simp [dig]
 omega
theorem all_bad {s : ByteArray} {k : Nat} (hk : k < s.size) (h : ¬ (48 ≤ (s[k].toNat : Int) ∧ (s[k].toNat : Int) ≤ 57)) : allDig s.data.toList = false := by
 rw [Bool.eq_false_iff]
 intro ha
 have := Qon.1 (List.all_eq_true.1 ha s[k] (by
  have : s[k] = s.data.toList[k]'(by simpa using hk) := rfl
  rw [this]; exact List.getElem_mem _))
 omega

set_option maxHeartbeats 400000 in
theorem Qkk (s : ByteArray) (w : World) (hs : s.size ≤ maxLen) :
  Calls Tryz.prog 136 #[.string s] w fun e w' => e = .returned (.bool (allDig s.data.toList)) ∧ w' = w := by
 unfold maxLen at hs
 go_enter Tryz.func136, Tryz.ntmps136
 go_wp2
 go_loop [6] (fun i => ∃ k : Nat, k ≤ s.size ∧ i = .int .i64 k ∧ Hid (allDig (s.data.toList.take k) = true)) (fun i => s.size - (intOf i).toNat)
 case atStart => exact ⟨0, Nat.zero_le _, rfl, rfl⟩
 obtain ⟨k, hk, rfl, hd⟩ := hrel
 by_cases hlt : k < s.size
 ·
  have hts : Hid (s.data.toList.take (k + 1) = s.data.toList.take k ++ [s[k]]) := Qja s k hlt
  have hbad : Hid (¬ (48 ≤ (s[k].toNat : Int) ∧ (s[k].toNat : Int) ≤ 57) → allDig s.data.toList = false) := all_bad hlt
  go_wp2
  ·
   go_ret
   exact ⟨Qcf (hbad.out (by omega)).symm, rfl⟩
  ·
   go_round
   case rel => exact ⟨k + 1, by omega, by go_num, by show allDig _ = true; rw [hts.out]; exact Qbc hd.out (by omega) (by omega)⟩
   case measure => simp [intOf]; omega
  go_ret
  exact ⟨Qcf (hbad.out (by omega)).symm, rfl⟩
 go_wp2
 go_ret
 refine ⟨Qcf ?_, rfl⟩
 have : k = s.size := by omega
 subst this
 rw [Qzu hd.out]

theorem Qyr (l : List UInt8) : (⟨l.toArray⟩ : ByteArray).size = l.length := by simp [ByteArray.size]

theorem Jak {l : List UInt8} (h0 : ¬ l = [48]) (h : trim l = []) : numForm l = false := by
 unfold numForm; rw [h]; simp [h0]
theorem Qta {l r : List UInt8} (h0 : ¬ l = [48]) (h : trim l = 48 :: r) : numForm l = false := by
 unfold numForm; rw [h]; simp [h0]
theorem form_cons {l r : List UInt8} {c : UInt8} (h0 : ¬ l = [48]) (h : trim l = c :: r) (hc : ¬ c = 48) : numForm l = allDig (c :: r) := by
 have e1 : (l == [48]) = false := beq_eq_false_iff_ne.2 h0
 have e2 : ((some c : Option UInt8) != some 48) = true := bne_iff_ne.2 fun e => hc (Option.some.inj e)
 unfold numForm allDig
 rw [h]
 simp only [List.isEmpty_cons, List.head?_cons, e1, e2]
 simp
theorem trim_le (l : List UInt8) : (trim l).length ≤ l.length := by
 rcases trim_cases l with ⟨_, h⟩ | ⟨_, h⟩
 ·
  have := congrArg List.length h
  simp at this; omega
 · rw [h]; exact Nat.le_refl _
theorem not48 {c : UInt8} (h : ¬ c = 48) : ¬ (c.toNat : Int) = 48 := fun e => h (UInt8.toNat_inj.1 (by
 have : c.toNat = 48 := by omega
 rw [this]; rfl))

set_option maxHeartbeats 400000 in
theorem Qgr (s : ByteArray) (w : World) (hs : s.size ≤ maxLen) :
  Calls Tryz.prog 107 #[.string s] w fun e w' => e = .returned (.bool (numForm s.data.toList)) ∧ w' = w := by
 by_cases h0 : s.data.toList = [48]
 ·
  have e0 : (s.toList == [48]) = true := by rw [Lib.toList_data, h0]; rfl
  have H : Hid (numForm s.data.toList = true) := by rw [h0]; exact Qwg
  clear h0
  go_enter Tryz.func107, Tryz.ntmps107
  go_wp2
  go_ret
  exact ⟨Qcf H.out.symm, rfl⟩
 have e0 : (s.toList == [48]) = false := by rw [Lib.toList_data, beq_eq_false_iff_ne]; exact h0
 cases ht : trim s.data.toList with
 | nil =>
  have H : Hid (numForm s.data.toList = false) := Jak h0 ht
  have ht' : Lib.trimPrefix s.data.toList [45] = [] := ht
  clear h0 ht
  go_enter Tryz.func107, Tryz.ntmps107
  go_wp2_with (go_at_call 135; refine (Tryz.strings_TrimPrefix _ _ _).mono ?_; rintro e w' ⟨rfl, rfl⟩)
  go_ret
  exact ⟨Qcf H.out.symm, rfl⟩
 | cons c r =>
  have ht' : Lib.trimPrefix s.data.toList [45] = c :: r := ht
  by_cases hc : c = 48
  ·
   have H : Hid (numForm s.data.toList = false) := by subst hc; exact Qta h0 ht
   subst hc
   clear h0 ht
   go_enter Tryz.func107, Tryz.ntmps107
   go_wp2_with (go_at_call 135; refine (Tryz.strings_TrimPrefix _ _ _).mono ?_; rintro e w' ⟨rfl, rfl⟩)
   go_ret
   exact ⟨Qcf H.out.symm, rfl⟩
  have H : Hid (numForm s.data.toList = allDig (c :: r)) := form_cons h0 ht hc
  have hlen : (⟨(c :: r).toArray⟩ : ByteArray).size ≤ maxLen := by
   have := trim_le s.data.toList
   rw [ht] at this
   rw [Qyr]
   have e : s.size = s.data.toList.length := Lib.size_eq s
   omega
  have h48 := not48 hc
  clear h0 ht hc
  go_enter Tryz.func107, Tryz.ntmps107
  go_wp2_with (first
   | (go_at_call 135; refine (Tryz.strings_TrimPrefix _ _ _).mono ?_; rintro e w' ⟨rfl, rfl⟩)
   | (go_at_call 136; refine (Qkk ⟨(c :: r).toArray⟩ _ hlen).mono ?_; rintro e w' ⟨rfl, rfl⟩))
  go_ret
  refine ⟨Qcf ?_, rfl⟩
  rw [H.out]
  show ((c.toNat : Int) != 48 && allDig (c :: r)) = allDig (c :: r)
  rw [bne_iff_ne.2 h48]
  rfl

set_option maxHeartbeats 400000 in
theorem parse_any (s : ByteArray) (w : World) (hlim : s.size ≤ 281474976710656) {t1 : TypeId} {p1 : Value}
  (hv1 : w.var? Tryz.prog "strconv.ErrRange" = some #[.iface t1 p1]) :
  Calls Tryz.prog 88 #[.string s] w fun e w' => e = .returned (.tuple #[.int .i64 (parseP s.data.toList).1, .int .i64 (parseP s.data.toList).2]) ∧ Below w.heap.size w w' := by
 have hm : s.size ≤ maxLen := by unfold maxLen; omega
 have V1 : Hid (w.var? Tryz.prog "strconv.ErrRange" = some #[.iface t1 p1]) := hv1
 clear hv1
 cases hf : numForm s.data.toList with
 | false =>
  have H : Hid (parseP s.data.toList = (0, 7)) := Qtm hf
  go_enter Tryz.func88, Tryz.ntmps88
  go_wp2_with (go_at_call 107; refine (Qgr _ _ hm).mono ?_; rintro e w' ⟨rfl, rfl⟩)
  go_ret2
  exact ⟨ret2 H.out, Below.refl _ _⟩
 | true =>
  by_cases hr : Fits (numVal s.data.toList)
  ·
   have H : Hid (parseP s.data.toList = (numVal s.data.toList, 0)) := parse_in hf hr
   have A : Hid (Lib.atoiAll s.data.toList = .ok (numVal s.data.toList)) := (Qmb hf).1 hr
   clear hr
   go_enter Tryz.func88, Tryz.ntmps88
   go_wp2_with (first
    | (go_at_call 107; refine (Qgr _ _ hm).mono ?_; rintro e w' ⟨rfl, rfl⟩)
    | (go_at_call 108; refine (Tryz.atoi_ok s (by omega) _ A.out _).mono ?_; rintro e w1 ⟨rfl, hw⟩))
   go_ret2
   exact ⟨ret2 H.out, hw⟩
  have H : Hid (parseP s.data.toList = (0, 8)) := parse_out hf hr
  have A : Hid (Lib.atoiAll s.data.toList = .range) := (Qmb hf).2 hr
  clear hr
  go_enter Tryz.func88, Tryz.ntmps88
  go_wp2_with (first
   | (go_at_call 107; refine (Qgr _ _ hm).mono ?_; rintro e w' ⟨rfl, rfl⟩)
   | (go_at_call 108; refine (Tryz.atoi_range s hlim A.out _ _ _ V1.out).mono ?_; rintro e w1 ⟨⟨N, rfl⟩, hw⟩))
  go_ret2
  exact ⟨ret2 H.out, hw⟩
end Go.Proofs.YtccehgfecaamoaaGreatDoor.Num
namespace Go.Proofs.YtccehgfecaamoaaGreatDoor
section
open Go.RowKit
structure TV where
 kd : Int
 tx : ByteArray
 nm : Int
 at_ : Int
 nd : Int
 why : Int
 fa : Int
abbrev TV.val (t : TV) : Value := .tuple #[.agg #[.int .i64 t.kd, .string t.tx, .int .i64 t.nm, .int .i64 t.at_], .int .i64 t.nd, .agg #[.int .i64 t.why, .int .i64 t.fa]]
def resT (k : Nat) : Res → TV
 | .tok kd tx nm n => ⟨kd, ⟨tx.toArray⟩, nm, (k : Int), ((k + n : Nat) : Int), 0, 0⟩
 | .bad why o => ⟨0, ⟨#[]⟩, 0, 0, 0, why, ((k + o : Nat) : Int)⟩

theorem Qsa (k : Nat) (kd : Int) (u : ByteArray) (nm : Int) (n : Nat) : resT k (.tok kd u.data.toList nm n) = ⟨kd, u, nm, (k : Int), (k : Int) + (n : Int), 0, 0⟩ := by
 cases u; simp [resT]

abbrev tokZ : Obj := .cells #[.int .i64 0, .string ⟨#[]⟩, .int .i64 0, .int .i64 0] 83
abbrev fltZ : Obj := .cells #[.int .i64 0, .int .i64 0] 31
structure Boxes (w : World) (b c : Nat) : Prop where
 x0 : w.cell? ⟨b, 0, none⟩ = some (.int .i64 0)
 x1 : w.cell? ⟨b, 1, none⟩ = some (.string ⟨#[]⟩)
 x2 : w.cell? ⟨b, 2, none⟩ = some (.int .i64 0)
 x3 : w.cell? ⟨b, 3, none⟩ = some (.int .i64 0)
 y0 : w.cell? ⟨c, 0, none⟩ = some (.int .i64 0)
 y1 : w.cell? ⟨c, 1, none⟩ = some (.int .i64 0)
 fx : ∀ o, w.frozen? ⟨b, o, none⟩ = false
 fy : ∀ o, w.frozen? ⟨c, o, none⟩ = false
theorem Qfs (w : World) : Below w.heap.size w ((w.alloc tokZ).alloc fltZ) := ((Below.refl _ w).alloc (Nat.le_refl _) _).alloc (by simp) _
theorem Qav {w w2 : World} (h : Below (w.heap.size + 2) ((w.alloc tokZ).alloc fltZ) w2) : Boxes w2 w.heap.size (w.heap.size + 1) := by
 have hb : w2.heap[w.heap.size]? = some tokZ := by
  rw [h.block _ (by omega), Lib.alloc_old (w.alloc tokZ) _ _ (by simp)]
  exact heap_alloc_new w _
 have hc : w2.heap[w.heap.size + 1]? = some fltZ := by
  rw [h.block _ (by omega)]
  have := heap_alloc_new (w.alloc tokZ) fltZ
  rwa [show (w.alloc tokZ).heap.size = w.heap.size + 1 by simp] at this
 exact ⟨by rw [Lib.cell_of_heap hb]; rfl, by rw [Lib.cell_of_heap hb]; rfl, by rw [Lib.cell_of_heap hb]; rfl, by rw [Lib.cell_of_heap hb]; rfl,
  by rw [Lib.cell_of_heap hc]; rfl, by rw [Lib.cell_of_heap hc]; rfl, fun o => Lib.frozen_of_heap hb o, fun o => Lib.frozen_of_heap hc o⟩
theorem Qar {B : Nat} {w w2 : World} (h : Below B w w2) {b c : Nat} (hb : B ≤ b) (hc : B ≤ c) (q0 q1 q2 q3 q4 q5 : Value) :
  Below B w ((((((w2.setCell ⟨b, 0, none⟩ q0).setCell ⟨b, 1, none⟩ q1).setCell ⟨b, 2, none⟩ q2).setCell ⟨b, 3, none⟩ q3).setCell ⟨c, 0, none⟩ q4).setCell ⟨c, 1, none⟩ q5) :=
 (((((h.setCell (p := ⟨b, 0, none⟩) hb q0).setCell (p := ⟨b, 1, none⟩) hb q1).setCell (p := ⟨b, 2, none⟩) hb q2).setCell (p := ⟨b, 3, none⟩) hb q3).setCell (p := ⟨c, 0, none⟩) hc q4).setCell (p := ⟨c, 1, none⟩) hc q5

theorem Qdu {a b : TV} (h : a = b) : Ending.returned a.val = .returned b.val := by rw [h]

theorem Qcw (why a : Int) (w : World) :
  Calls Tryz.prog 84 #[.int .i64 why, .int .i64 a] w fun e w' => e = .returned (TV.val ⟨0, ⟨#[]⟩, 0, 0, 0, why, a⟩) ∧ Below w.heap.size w w' := by
 have hb := Qfs w
 go_enter Tryz.func84, Tryz.ntmps84
 go_wp2_with fail
 refine bodyPost_ret (v := TV.val ⟨0, ⟨#[]⟩, 0, 0, 0, why, a⟩) (by simp [results, Tryz.results84, go_sem]) rfl ?_
 exact ⟨rfl, ((Below.refl _ w).alloc (Nat.le_refl _) _).alloc (by simp) _⟩

theorem Qmf (s : ByteArray) (w : World) (hlim : s.size ≤ 140737488355328) :
  Calls Tryz.prog 85 #[.string s] w fun e w' => e = .returned (.string s) ∧ Below w.heap.size w w' := by
 have HC := hide (Tryz.stringslite_Clone s w (by omega))
 go_enter Tryz.func85, Tryz.ntmps85
 go_wp2_with fail
 refine (Qa HC).mono ?_
 rintro e w' ⟨rfl, hb⟩
 go_wp2_with fail
 go_ret
 exact ⟨rfl, hb⟩

theorem Qxn (s : ByteArray) (k : Nat) (hk : k ≤ s.size) (hs : s.size ≤ 65536) (w : World) :
  Calls Tryz.prog 55 #[.string s, .int .i64 (k : Int)] w fun e w' => e = .returned (resT k (nmRes (s.data.toList.drop k))).val ∧ Below w.heap.size w w' := by
 have hb := Qfs w
 have hle := Qxp (s.data.toList.drop k)
 rw [Qcn] at hle
 obtain ⟨n, hn⟩ : ∃ n, nmLen (s.data.toList.drop k) = n := ⟨_, rfl⟩
 have HE := hide (show ∀ w, Calls Tryz.prog 83 #[.string s, .int .i64 (k : Int)] w fun e w' => e = .returned (.int .i64 ((k : Int) + (n : Int))) ∧ w' = w by
  intro w; have := Qp s k hk (by omega) w; rw [hn] at this; simpa using this)
 rw [hn] at hle
 by_cases h64 : 64 < n
 ·
  have H := hide (show resT k (nmRes (s.data.toList.drop k)) = ⟨0, ⟨#[]⟩, 0, 0, 0, 2, (k : Int)⟩ by unfold nmRes; rw [hn, if_pos h64]; rfl)
  clear hn
  go_enter Tryz.func55, Tryz.ntmps55
  go_wp2_with fail
  refine (Qa HE _).mono ?_
  rintro e w1 ⟨rfl, rfl⟩
  go_wp2_with fail
  refine (Qcw _ _ _).mono ?_
  rintro e w2 ⟨rfl, b2⟩
  have bx := Qav (w := w) (w2 := w2) (by simpa using b2)
  have bw : Below w.heap.size w w2 := hb.trans (b2.mono (by simp; omega))
  obtain ⟨x0, x1, x2, x3, y0, y1, fx, fy⟩ := bx
  clear b2 hb
  go_wp2_with fail
  refine bodyPost_ret (v := TV.val ⟨0, ⟨#[]⟩, 0, 0, 0, 2, (k : Int)⟩) (by simp [results, Tryz.results55, go_sem, x0, x1, x2, x3, y0, y1]) rfl ?_
  exact ⟨Qdu (Qa H).symm, Qar bw (Nat.le_refl _) (Nat.le_succ _) _ _ _ _ _ _⟩
 have hrun := Qiv s k n (k : Int) ((k : Int) + (n : Int)) rfl (by omega) (by omega)
 obtain ⟨u, hu⟩ : ∃ u, s.extract k (k + n) = u := ⟨_, rfl⟩
 have hul : u.data.toList = (s.data.toList.drop k).take n := by rw [← hu]; exact Qif s k n
 have husz : u.size ≤ 140737488355328 := by rw [Qca, hul, List.length_take]; omega
 rw [hu] at hrun
 have H := hide (show resT k (nmRes (s.data.toList.drop k)) = ⟨1, u, 0, (k : Int), (k : Int) + (n : Int), 0, 0⟩ by
  unfold nmRes; rw [hn, if_neg h64, ← hul]; exact Qsa k 1 u 0 n)
 clear hn hu hul
 go_enter Tryz.func55, Tryz.ntmps55
 go_wp2_with fail
 refine (Qa HE _).mono ?_
 rintro e w1 ⟨rfl, rfl⟩
 go_wp2_with fail
 refine (Qmf u _ husz).mono ?_
 rintro e w2 ⟨rfl, b2⟩
 have bx := Qav (w := w) (w2 := w2) (by simpa using b2)
 have bw : Below w.heap.size w w2 := hb.trans (b2.mono (by simp; omega))
 obtain ⟨x0, x1, x2, x3, y0, y1, fx, fy⟩ := bx
 clear b2 hb
 go_wp2_with fail
 refine bodyPost_ret (v := TV.val ⟨1, u, 0, (k : Int), (k : Int) + (n : Int), 0, 0⟩) (by simp [results, Tryz.results55, go_sem, x0, x1, x2, x3, y0, y1]) rfl ?_
 exact ⟨Qdu (Qa H).symm, Qar bw (Nat.le_refl _) (Nat.le_succ _) _ _ _ _ _ _⟩
end
section
open Go.RowKit
theorem Qoe {w w' : World} {name : String} {x : Array Value} (h : w.var? Tryz.prog name = some x) (hb : Below w.heap.size w w') : w'.var? Tryz.prog name = some x := by
 unfold World.var? at *
 cases hg : Tryz.prog.globalNamed name with
 | none => rw [hg] at h; simp at h
 | some g =>
  rw [hg] at h
  simp only [Option.bind_some] at h ⊢
  by_cases hlt : g < w.heap.size
  · rw [hb.block g hlt]; exact h
  rw [Array.getElem?_eq_none (by omega)] at h
  simp at h

theorem vl_eq : ∀ (l : Txt) (acc : Nat), vl acc l = Num.valFrom acc l
 | [], _ => rfl
 | _ :: l, _ => vl_eq l _
theorem dig_D {c : UInt8} (h : isD (bv c) = true) : Num.dig c = true := by
 unfold isD bv at h
 unfold Num.dig
 simp only [Bool.and_eq_true, decide_eq_true_eq] at h ⊢
 omega
theorem Qqk : ∀ r : Txt, (r.take (dcn r)).all Num.dig = true
 | [] => rfl
 | c :: t => by
  cases h : isD (bv c) with
  | true =>
   have e : dcn (c :: t) = dcn t + 1 := by simp [dcn, h]
   rw [e, List.take_succ_cons, List.all_cons, dig_D h, Qqk t]; rfl
  | false =>
   have e : dcn (c :: t) = 0 := by simp [dcn, h]
   rw [e]; rfl
theorem dg_form {c : UInt8} {t : Txt} (h : isD (bv c) = true) :
  Num.numForm ((c :: t).take (dgLen (c :: t))) = true ∧ Num.numVal ((c :: t).take (dgLen (c :: t))) = (vl 0 ((c :: t).take (dgLen (c :: t))) : Int) := by
 by_cases h0 : c = 48
 ·
  subst h0
  have e : dgLen (48 :: t) = 1 := by rw [Qfw, if_pos rfl]
  rw [e, show (48 :: t).take 1 = [48] from rfl]
  exact ⟨by decide, by decide⟩
 have e : dgLen (c :: t) = dcn (c :: t) := by rw [Qfw, if_neg h0]
 have e2 : dcn (c :: t) = dcn t + 1 := by simp [dcn, h]
 rw [e]
 have hall := Qqk (c :: t)
 rw [e2, List.take_succ_cons] at hall ⊢
 have hc : ¬ c = 45 := by rintro rfl; exact absurd h (by decide)
 have hn : Num.isNeg (c :: t.take (dcn t)) = false := by simp [Num.isNeg, hc]
 have ht : Num.trim (c :: t.take (dcn t)) = c :: t.take (dcn t) := by
  rcases Num.trim_cases (c :: t.take (dcn t)) with h | h
  · rw [hn] at h; exact absurd h.1 (by simp)
  · exact h.2
 refine ⟨?_, ?_⟩
 ·
  by_cases hz : (c :: t.take (dcn t)) = [48]
  · exact absurd (by injection hz) h0
  · rw [Num.form_cons hz ht h0]; exact hall
 unfold Num.numVal
 rw [hn, ht, vl_eq]; rfl
theorem Jad {c : UInt8} {t : Txt} (h : isD (bv c) = true) : Num.parseP ((c :: t).take (dgLen (c :: t))) =
  if 9223372036854775807 < vl 0 ((c :: t).take (dgLen (c :: t))) then (0, 8) else ((vl 0 ((c :: t).take (dgLen (c :: t))) : Int), 0) := by
 obtain ⟨h1, h2⟩ := dg_form (t := t) h
 split
 ·
  rename_i hv
  exact Num.parse_out h1 (by rw [h2]; unfold Num.Fits; omega)
 rename_i hv
 rw [Num.parse_in h1 (by rw [h2]; unfold Num.Fits; omega), h2]

theorem Jcw {s : ByteArray} {m : Nat} (h : m < s.size) : noW (s.data.toList.drop m) = !inW (bv s[m]) := by rw [Qb s m h]; rfl

theorem Qpd (s : ByteArray) (k : Nat) (hk : k < s.size) (hd : isD (bv s[k]) = true) (hs : s.size ≤ 65536) (w : World) {t1 : TypeId} {p1 : Value}
  (hv1 : w.var? Tryz.prog "strconv.ErrRange" = some #[.iface t1 p1]) :
  Calls Tryz.prog 57 #[.string s, .int .i64 (k : Int)] w fun e w' => e = .returned (resT k (dgRes (s.data.toList.drop k))).val ∧ Below w.heap.size w w' := by
 have hb := Qfs w
 have HV := hide (Qoe hv1 hb)
 clear hv1
 have hle := dg_le (s.data.toList.drop k)
 rw [Qcn] at hle
 have hP := Jad (t := s.data.toList.drop (k + 1)) hd
 rw [← Qb s k hk] at hP
 obtain ⟨n, hn⟩ : ∃ n, dgLen (s.data.toList.drop k) = n := ⟨_, rfl⟩
 have HE := hide (show ∀ w, Calls Tryz.prog 86 #[.string s, .int .i64 (k : Int)] w fun e w' => e = .returned (.int .i64 ((k : Int) + (n : Int))) ∧ w' = w by
  intro w; have := Qkv s k hk (by omega) w; rw [hn] at this; simpa using this)
 rw [hn] at hle hP
 have hrun := Qiv s k n (k : Int) ((k : Int) + (n : Int)) rfl (by omega) (by omega)
 obtain ⟨u, hu⟩ : ∃ u, s.extract k (k + n) = u := ⟨_, rfl⟩
 have hul : u.data.toList = (s.data.toList.drop k).take n := by rw [← hu]; exact Qif s k n
 have husz : u.size ≤ 281474976710656 := by rw [Qca, hul, List.length_take]; omega
 rw [hu] at hrun
 rw [← hul] at hP
 have HR := hide (show dgRes (s.data.toList.drop k) = if noW (s.data.toList.drop (k + n)) = false then .bad 7 n else if 9223372036854775807 < vl 0 u.data.toList then .bad 8 0 else .tok 2 [] (vl 0 u.data.toList) n by
  unfold dgRes; rw [hn, hul, List.drop_drop])
 clear hu hul hn
 have HP := hide hP
 clear hP
 by_cases hend : k + n < s.size
 ·
  cases hw : inW (s[k + n].toNat : Int) with
  | true =>
   have H := hide (show resT k (dgRes (s.data.toList.drop k)) = ⟨0, ⟨#[]⟩, 0, 0, 0, 7, (k : Int) + (n : Int)⟩ by
    rw [Qa HR, if_pos (by rw [Jcw hend, show inW (bv s[k + n]) = true from hw]; rfl)]; simp [resT])
   clear HR
   go_enter Tryz.func57, Tryz.ntmps57
   go_wp2_with fail
   refine (Qa HE _).mono ?_
   rintro e w1 ⟨rfl, rfl⟩
   go_wp2_with fail
   refine (Qba _ _).mono ?_
   rintro e w1 ⟨rfl, rfl⟩
   rw [hw]
   go_wp2_with fail
   refine (Qcw _ _ _).mono ?_
   rintro e w2 ⟨rfl, b2⟩
   have bx := Qav (w := w) (w2 := w2) (by simpa using b2)
   have bw : Below w.heap.size w w2 := hb.trans (b2.mono (by simp; omega))
   obtain ⟨x0, x1, x2, x3, y0, y1, fx, fy⟩ := bx
   clear b2 hb
   go_wp2_with fail
   refine bodyPost_ret (v := TV.val ⟨0, ⟨#[]⟩, 0, 0, 0, 7, (k : Int) + (n : Int)⟩) (by simp [results, Tryz.results57, go_sem, x0, x1, x2, x3, y0, y1]) rfl ?_
   exact ⟨Qdu (Qa H).symm, Qar bw (Nat.le_refl _) (Nat.le_succ _) _ _ _ _ _ _⟩
  | false =>
   have hno : noW (s.data.toList.drop (k + n)) = true := by rw [Jcw hend, show inW (bv s[k + n]) = false from hw]; rfl
   by_cases hv : 9223372036854775807 < vl 0 u.data.toList
   ·
    have H := hide (show resT k (dgRes (s.data.toList.drop k)) = ⟨0, ⟨#[]⟩, 0, 0, 0, 8, (k : Int)⟩ by
     rw [Qa HR, if_neg (by rw [hno]; simp), if_pos hv]; simp [resT])
    have HQ := hide (show Num.parseP u.data.toList = (0, 8) by rw [Qa HP, if_pos hv])
    clear HR HP hno hv
    go_enter Tryz.func57, Tryz.ntmps57
    go_wp2_with fail
    refine (Qa HE _).mono ?_
    rintro e w1 ⟨rfl, rfl⟩
    go_wp2_with fail
    refine (Qba _ _).mono ?_
    rintro e w1 ⟨rfl, rfl⟩
    rw [hw]
    go_wp2_with fail
    refine (Num.parse_any u _ husz (Qa HV)).mono ?_
    rintro e w1 ⟨rfl, b1⟩
    rw [Qa HQ]
    go_wp2_with fail
    refine (Qcw _ _ _).mono ?_
    rintro e w2 ⟨rfl, b2'⟩
    have b2 := b1.trans (b2'.mono b1.size)
    clear b1 b2'
    have bx := Qav (w := w) (w2 := w2) (by simpa using b2)
    have bw : Below w.heap.size w w2 := hb.trans (b2.mono (by simp; omega))
    obtain ⟨x0, x1, x2, x3, y0, y1, fx, fy⟩ := bx
    clear b2 hb
    go_wp2_with fail
    refine bodyPost_ret (v := TV.val ⟨0, ⟨#[]⟩, 0, 0, 0, 8, (k : Int)⟩) (by simp [results, Tryz.results57, go_sem, x0, x1, x2, x3, y0, y1]) rfl ?_
    exact ⟨Qdu (Qa H).symm, Qar bw (Nat.le_refl _) (Nat.le_succ _) _ _ _ _ _ _⟩
   have H := hide (show resT k (dgRes (s.data.toList.drop k)) = ⟨2, ⟨#[]⟩, (vl 0 u.data.toList : Int), (k : Int), (k : Int) + (n : Int), 0, 0⟩ by
    rw [Qa HR, if_neg (by rw [hno]; simp), if_neg hv]; simp [resT])
   have HQ := hide (show Num.parseP u.data.toList = ((vl 0 u.data.toList : Int), 0) by rw [Qa HP, if_neg hv])
   clear HR HP hno hv
   go_enter Tryz.func57, Tryz.ntmps57
   go_wp2_with fail
   refine (Qa HE _).mono ?_
   rintro e w1 ⟨rfl, rfl⟩
   go_wp2_with fail
   refine (Qba _ _).mono ?_
   rintro e w1 ⟨rfl, rfl⟩
   rw [hw]
   go_wp2_with fail
   refine (Num.parse_any u _ husz (Qa HV)).mono ?_
   rintro e w2 ⟨rfl, b2⟩
   rw [Qa HQ]
   obtain ⟨vv, hvv⟩ : ∃ vv : Int, (vl 0 u.data.toList : Int) = vv := ⟨_, rfl⟩
   rw [hvv] at H ⊢
   clear hvv HQ
   have bx := Qav (w := w) (w2 := w2) (by simpa using b2)
   have bw : Below w.heap.size w w2 := hb.trans (b2.mono (by simp; omega))
   obtain ⟨x0, x1, x2, x3, y0, y1, fx, fy⟩ := bx
   clear b2 hb
   go_wp2_with fail
   refine bodyPost_ret (v := TV.val ⟨2, ⟨#[]⟩, vv, (k : Int), (k : Int) + (n : Int), 0, 0⟩) (by simp [results, Tryz.results57, go_sem, x0, x1, x2, x3, y0, y1]) rfl ?_
   exact ⟨Qdu (Qa H).symm, Qar bw (Nat.le_refl _) (Nat.le_succ _) _ _ _ _ _ _⟩
 have hno : noW (s.data.toList.drop (k + n)) = true := by rw [Qdn s (k + n) (by omega)]; rfl
 by_cases hv : 9223372036854775807 < vl 0 u.data.toList
 ·
  have H := hide (show resT k (dgRes (s.data.toList.drop k)) = ⟨0, ⟨#[]⟩, 0, 0, 0, 8, (k : Int)⟩ by
   rw [Qa HR, if_neg (by rw [hno]; simp), if_pos hv]; simp [resT])
  have HQ := hide (show Num.parseP u.data.toList = (0, 8) by rw [Qa HP, if_pos hv])
  clear HR HP hno hv
  go_enter Tryz.func57, Tryz.ntmps57
  go_wp2_with fail
  refine (Qa HE _).mono ?_
  rintro e w1 ⟨rfl, rfl⟩
  go_wp2_with fail
  refine (Num.parse_any u _ husz (Qa HV)).mono ?_
  rintro e w1 ⟨rfl, b1⟩
  rw [Qa HQ]
  go_wp2_with fail
  refine (Qcw _ _ _).mono ?_
  rintro e w2 ⟨rfl, b2'⟩
  have b2 := b1.trans (b2'.mono b1.size)
  clear b1 b2'
  have bx := Qav (w := w) (w2 := w2) (by simpa using b2)
  have bw : Below w.heap.size w w2 := hb.trans (b2.mono (by simp; omega))
  obtain ⟨x0, x1, x2, x3, y0, y1, fx, fy⟩ := bx
  clear b2 hb
  go_wp2_with fail
  refine bodyPost_ret (v := TV.val ⟨0, ⟨#[]⟩, 0, 0, 0, 8, (k : Int)⟩) (by simp [results, Tryz.results57, go_sem, x0, x1, x2, x3, y0, y1]) rfl ?_
  exact ⟨Qdu (Qa H).symm, Qar bw (Nat.le_refl _) (Nat.le_succ _) _ _ _ _ _ _⟩
 have H := hide (show resT k (dgRes (s.data.toList.drop k)) = ⟨2, ⟨#[]⟩, (vl 0 u.data.toList : Int), (k : Int), (k : Int) + (n : Int), 0, 0⟩ by
  rw [Qa HR, if_neg (by rw [hno]; simp), if_neg hv]; simp [resT])
 have HQ := hide (show Num.parseP u.data.toList = ((vl 0 u.data.toList : Int), 0) by rw [Qa HP, if_neg hv])
 clear HR HP hno hv
 go_enter Tryz.func57, Tryz.ntmps57
 go_wp2_with fail
 refine (Qa HE _).mono ?_
 rintro e w1 ⟨rfl, rfl⟩
 go_wp2_with fail
 refine (Num.parse_any u _ husz (Qa HV)).mono ?_
 rintro e w2 ⟨rfl, b2⟩
 rw [Qa HQ]
 obtain ⟨vv, hvv⟩ : ∃ vv : Int, (vl 0 u.data.toList : Int) = vv := ⟨_, rfl⟩
 rw [hvv] at H ⊢
 clear hvv HQ
 have bx := Qav (w := w) (w2 := w2) (by simpa using b2)
 have bw : Below w.heap.size w w2 := hb.trans (b2.mono (by simp; omega))
 obtain ⟨x0, x1, x2, x3, y0, y1, fx, fy⟩ := bx
 clear b2 hb
 go_wp2_with fail
 refine bodyPost_ret (v := TV.val ⟨2, ⟨#[]⟩, vv, (k : Int), (k : Int) + (n : Int), 0, 0⟩) (by simp [results, Tryz.results57, go_sem, x0, x1, x2, x3, y0, y1]) rfl ?_
 exact ⟨Qdu (Qa H).symm, Qar bw (Nat.le_refl _) (Nat.le_succ _) _ _ _ _ _ _⟩
end
section
open Go.ChangeShapes Go.WideShapes Go.RowKit
def TR.app (bs : Txt) (k : Nat) : TR → TR
 | ok v n => ok (bs ++ v) (n + k)
 | bad o => bad (o + k)
 | never => never
theorem TR.app_nil (x : TR) : x.app [] 0 = x := by cases x <;> rfl
theorem TR.app_pre (bs : Txt) (k : Nat) (c : UInt8) (j : Nat) (x : TR) : (x.pre c j).app bs k = x.app (bs ++ [c]) (k + j) := by
 cases x with
 | ok v n => simp [TR.pre, TR.app]; omega
 | bad o => simp [TR.pre, TR.app]; omega
 | never => rfl

theorem Jbu {c : UInt8} (h1 : ¬ c = 34) (h2 : ¬ c = 10) (h3 : ¬ c = 92) : ∀ t : Txt, txScan (c :: t) = (txScan t).pre c 1
 | [] => by simp [txScan, h1, h2, h3, TR.pre]
 | d :: u => by rw [txScan, if_neg h1, if_neg h2, if_neg h3]
theorem Qsg : ∀ t : Txt, txScan (34 :: t) = .ok [] 1
 | [] => by simp [txScan]
 | d :: u => by rw [txScan, if_pos rfl]
theorem tx_line : ∀ t : Txt, txScan (10 :: t) = .bad 0
 | [] => by simp [txScan]
 | d :: u => by rw [txScan, if_neg (by decide), if_pos rfl]
theorem tx_esc {d b : UInt8} (h : esc d = some b) (u : Txt) : txScan (92 :: d :: u) = (txScan u).pre b 2 := by
 rw [txScan, if_neg (by decide), if_neg (by decide), if_pos rfl, h]
theorem Jbt : ∀ t : Txt, (∀ d u, t = d :: u → esc d = none) → txScan (92 :: t) = .bad 0
 | [], _ => by simp [txScan]
 | d :: u, h => by rw [txScan, if_neg (by decide), if_neg (by decide), if_pos rfl, h d u rfl]

def byteVals (l : List UInt8) : List Value := l.map fun b => Value.int .u8 (b.toNat : Int)
theorem Qzy {wr : World} {B : Nat} {v : Value} {bs : List UInt8} (hown : wr.ownsRow B 5 1 v bs.length (byteVals bs)) (hne : bs ≠ []) :
  (convert 51 9 v).run Tryz.prog wr = .ok (.string ⟨bs.toArray⟩) wr := by
 rcases hown.2 with ⟨_, h⟩ | ⟨g, cap, cur, rfl, hg, hheap, hle, hcap, hsz, htake⟩
 · exact absurd (List.eq_nil_of_length_eq_zero h) hne
 refine run_convert_bytes_back wr 51 9 5 ⟨g, 0, none⟩ cap bs Tryz.underlying51 Tryz.underlying5 Tryz.underlying9 fun j hj => ?_
 refine World.news_of_block hheap j _ ?_
 have h1 : (cur.toList.take (bs.length * 1))[j]? = (byteVals bs)[j]? := by rw [htake]
 rw [List.getElem?_take, if_pos (by omega)] at h1
 rw [h1]
 simp [byteVals, hj]
theorem Qzx (w : World) : (convert 51 9 (.slice none 0 0)).run Tryz.prog w = .ok (.string ⟨#[]⟩) w := by
 rw [run_convert_bytes_string w 51 9 5 none 0 0 Tryz.underlying51 Tryz.underlying5 Tryz.underlying9]
 simp [Conv.bytesToString]
 rfl
theorem info5 : (Tryz.prog.info? 5).map (fun i => (i.zero, i.size, i.bytes)) = some (some (.int .u8 0), 1, 1) := by kernel_rfl

def TxRel (s : ByteArray) (k B : Nat) (W0 : World) (v i : Value) (wr : World) : Prop :=
 ∃ (m : Nat) (bs : Txt), i = .int .i64 (m : Int) ∧ Hid (k + 1 ≤ m ∧ m ≤ s.size ∧ bs.length ≤ m ∧ wr.ownsRow B 5 1 v bs.length (byteVals bs) ∧ Below B W0 wr ∧
  txScan (s.data.toList.drop (k + 1)) = (txScan (s.data.toList.drop m)).app bs (m - (k + 1)) ∧ (bs = [] → v = .slice none 0 0))

theorem Qzg {s : ByteArray} {k B m n : Nat} {W0 wr w2 : World} {v v' : Value} {bs : Txt} {c : UInt8} {x : Int} (hx : x = (c.toNat : Int)) (hB : B ≤ W0.heap.size)
  (h : k + 1 ≤ m ∧ m ≤ s.size ∧ bs.length ≤ m ∧ wr.ownsRow B 5 1 v bs.length (byteVals bs) ∧ Below B W0 wr ∧ txScan (s.data.toList.drop (k + 1)) = (txScan (s.data.toList.drop m)).app bs (m - (k + 1)) ∧ (bs = [] → v = .slice none 0 0))
  (hn : 0 < n) (hm : m + n ≤ s.size) (ht : txScan (s.data.toList.drop m) = (txScan (s.data.toList.drop (m + n))).pre c n)
  (hown : w2.ownsRow B 5 1 v' (bs.length + 1) (byteVals bs ++ [.int .u8 x])) (hgrow : (wr.alloc (.cells #[.int .u8 x] 5)).grownBy w2 v.ownBlock) :
  TxRel s k B W0 v' (.int .i64 ((m + n : Nat) : Int)) w2 := by
 obtain ⟨h1, h2, h3, h4, h5, h6, h7⟩ := h
 refine ⟨m + n, bs ++ [c], rfl, hide ⟨by omega, hm, by rw [List.length_append]; simp; omega, ?_, ?_, ?_, fun h => absurd h (by simp)⟩⟩
 ·
  have e : byteVals (bs ++ [c]) = byteVals bs ++ [.int .u8 x] := by rw [hx]; simp [byteVals]
  rw [e, List.length_append]; exact hown
 ·
  have hsz := h5.size
  exact (h5.alloc (by omega) _).grown hgrow (by simp; omega) (fun j hj => (h4.lt j hj).1)
 rw [h6, ht, TR.app_pre]
 congr 1
 omega

theorem Qmd (wr : World) (x : Value) : ∀ j u, ([x] : List Value)[j]? = some u → (wr.alloc (.cells #[x] 5)).cell? ((⟨wr.heap.size, 0, none⟩ : Addr).add j) = some u := by
 intro j u hj
 match j, hj with
 | 0, hj => simp at hj; subst hj; simp [Addr.add]
theorem Qqi (x : Int) : ∀ u ∈ ([.int .u8 x] : List Value), u.oneCell' = true := by
 intro u hu; simp at hu; subst hu; rfl
theorem esc_at {s : ByteArray} {m : Nat} (h : m < s.size) (h92 : bv s[m] = 92) : s.data.toList.drop m = 92 :: s.data.toList.drop (m + 1) := by
 have e : s[m] = 92 := (Qhz (k := 92) (by omega)).1 h92
 rw [Qb s m h, e]
theorem Qoy : ∃ i0 : TypeInfo, Tryz.prog.info? 5 = some i0 ∧ i0.zero = some (.int .u8 0) ∧ i0.size = 1 ∧ i0.bytes = 1 := by
 obtain ⟨i0, hi, hi3⟩ := Option.map_eq_some_iff.1 info5
 simp only [Prod.mk.injEq] at hi3
 exact ⟨i0, hi, hi3⟩

theorem Qza (s : ByteArray) (k : Nat) (hk : k < s.size) (hs : s.size ≤ 65536) (w : World) :
  Calls Tryz.prog 58 #[.string s, .int .i64 (k : Int)] w fun e w' => e = .returned (resT k (txRes (s.data.toList.drop (k + 1)))).val ∧ Below w.heap.size w w' := by
 have hb := Qfs w
 obtain ⟨i0, hi, hz0, hz1, hz2⟩ := Qoy
 have HI := hide (show Tryz.prog.info? 5 = some i0 ∧ i0.zero = some (.int .u8 0) ∧ i0.size = 1 ∧ i0.bytes = 1 from ⟨hi, hz0, hz1, hz2⟩)
 clear hi hz0 hz1 hz2
 obtain ⟨W0, hW0⟩ : ∃ W0, (w.alloc tokZ).alloc fltZ = W0 := ⟨_, rfl⟩
 have hW0s : W0.heap.size = w.heap.size + 2 := by rw [← hW0]; simp
 have HBX := hide (show ∀ w2, Below (w.heap.size + 2) W0 w2 → Boxes w2 w.heap.size (w.heap.size + 1) ∧ Below w.heap.size w w2 from fun w2 h => by
  rw [← hW0] at h
  exact ⟨Qav h, hb.trans (h.mono (by omega))⟩)
 have HW0 := hide hW0s
 go_enter Tryz.func58, Tryz.ntmps58
 go_wp2
 clear hW0 hW0s hb
 go_loopw [7, 8] (fun v i wr => TxRel s k (w.heap.size + 2) W0 v i wr) (fun _ i _ => s.size - (intOf i).toNat)
 case atStart => exact ⟨k + 1, [], by go_num, hide ⟨Nat.le_refl _, by omega, Nat.zero_le _, World.ownsRow_nil _ _ _ _, Below.refl _ _, by rw [Nat.sub_self, TR.app_nil], fun _ => rfl⟩⟩
 obtain ⟨m, bs, rfl, HH⟩ := hrel
 obtain ⟨hkm, hms, hbl, hown, hbel, htx, hnil⟩ := Qa HH
 have hsz := hbel.size
 rw [Qa HW0] at hsz
 by_cases hlt : m < s.size
 ·
  cases e1 : ((s[m].toNat : Int) == 34) with
  | true =>
   by_cases hbs : bs = []
   ·
    have H := hide (show resT k (txRes (s.data.toList.drop (k + 1))) = ⟨3, ⟨bs.toArray⟩, 0, (k : Int), (m : Int) + 1, 0, 0⟩ by
     unfold txRes; rw [htx, (show s.data.toList.drop m = 34 :: s.data.toList.drop (m + 1) by rw [Qb s m hlt, (Qhz (k := 34) (by omega)).1 (beq_iff_eq.1 e1)]; rfl), Qsg]
     simp only [TR.app, resT, List.append_nil]; congr 1; omega)
    obtain ⟨⟨x0, x1, x2, x3, y0, y1, fx, fy⟩, bw⟩ := Qa HBX wr hbel
    have hv := hnil hbs
    subst hv hbs
    have hcv := Qzx wr
    clear htx hnil hown HBX
    go_wp2_with fail
    refine bodyPost_ret (v := TV.val ⟨3, ⟨#[]⟩, 0, (k : Int), (m : Int) + 1, 0, 0⟩) (by simp [results, Tryz.results58, go_sem, x0, x1, x2, x3, y0, y1]) rfl ?_
    exact ⟨Qdu (Qa H).symm, Qar bw (Nat.le_refl _) (Nat.le_succ _) _ _ _ _ _ _⟩
   have H := hide (show resT k (txRes (s.data.toList.drop (k + 1))) = ⟨3, ⟨bs.toArray⟩, 0, (k : Int), (m : Int) + 1, 0, 0⟩ by
    unfold txRes; rw [htx, (show s.data.toList.drop m = 34 :: s.data.toList.drop (m + 1) by rw [Qb s m hlt, (Qhz (k := 34) (by omega)).1 (beq_iff_eq.1 e1)]; rfl), Qsg]
    simp only [TR.app, resT, List.append_nil]; congr 1; omega)
   obtain ⟨⟨x0, x1, x2, x3, y0, y1, fx, fy⟩, bw⟩ := Qa HBX wr hbel
   have hcv := Qzy hown hbs
   clear htx hnil hown hbs HBX
   go_wp2_with fail
   refine bodyPost_ret (v := TV.val ⟨3, ⟨bs.toArray⟩, 0, (k : Int), (m : Int) + 1, 0, 0⟩) (by simp [results, Tryz.results58, go_sem, x0, x1, x2, x3, y0, y1]) rfl ?_
   exact ⟨Qdu (Qa H).symm, Qar bw (Nat.le_refl _) (Nat.le_succ _) _ _ _ _ _ _⟩
  | false =>
   have n1 := beq_eq_false_iff_ne.1 e1
   cases e2 : ((s[m].toNat : Int) == 10) with
   | true =>
    have H := hide (show resT k (txRes (s.data.toList.drop (k + 1))) = ⟨0, ⟨#[]⟩, 0, 0, 0, 7, (m : Int)⟩ by
     unfold txRes; rw [htx, (show s.data.toList.drop m = 10 :: s.data.toList.drop (m + 1) by rw [Qb s m hlt, (Qhz (k := 10) (by omega)).1 (beq_iff_eq.1 e2)]; rfl), tx_line]
     simp only [TR.app, resT]; congr 1; omega)
    clear htx hnil hown
    go_wp2_with fail
    refine (Qcw _ _ _).mono ?_
    rintro e w2 ⟨rfl, b2⟩
    obtain ⟨⟨x0, x1, x2, x3, y0, y1, fx, fy⟩, bw⟩ := Qa HBX w2 (hbel.trans (b2.mono (by omega)))
    clear HBX
    go_wp2_with fail
    refine bodyPost_ret (v := TV.val ⟨0, ⟨#[]⟩, 0, 0, 0, 7, (m : Int)⟩) (by simp [results, Tryz.results58, go_sem, x0, x1, x2, x3, y0, y1]) rfl ?_
    exact ⟨Qdu (Qa H).symm, Qar bw (Nat.le_refl _) (Nat.le_succ _) _ _ _ _ _ _⟩
   | false =>
    have n2 := beq_eq_false_iff_ne.1 e2
    cases e3 : ((s[m].toNat : Int) == 92) with
    | true =>
     have hd := esc_at hlt (beq_iff_eq.1 e3)
     have hrun := Qgh s (m + 1) ((m : Int) + 1) (by omega) (by omega)
     obtain ⟨u, hu⟩ : ∃ u, s.extract (m + 1) s.size = u := ⟨_, rfl⟩
     have hul : u.data.toList = s.data.toList.drop (m + 1) := by rw [← hu]; exact Qhm s (m + 1)
     have hus : u.size ≤ 140737488355328 := by rw [Qca, hul, Qcn]; omega
     rw [hu] at hrun
     have HE := hide (Qos u hus)
     clear hu
     cases he : escR (s.data.toList.drop (m + 1)) with
     | mk ev eb =>
      rw [hul, he] at HE
      cases eb
      ·
       have hno : ∀ d u, s.data.toList.drop (m + 1) = d :: u → esc d = none := fun d u h => by
        rw [h] at he
        cases hd2 : esc d with
        | none => rfl
        | some b => have := Qqs hd2; rw [show escR (d :: u) = escI (bv d) from rfl, this] at he; cases he
       have H := hide (show resT k (txRes (s.data.toList.drop (k + 1))) = ⟨0, ⟨#[]⟩, 0, 0, 0, 7, (m : Int)⟩ by
        unfold txRes; rw [htx, hd, Jbt _ hno]
        simp only [TR.app, resT]; congr 1; omega)
       clear htx hnil hown
       clear hd hno he
       go_wp2_with fail
       refine (Qa HE _).mono ?_
       rintro e w1 ⟨rfl, rfl⟩
       go_wp2_with fail
       refine (Qcw _ _ _).mono ?_
       rintro e w2 ⟨rfl, b2⟩
       obtain ⟨⟨x0, x1, x2, x3, y0, y1, fx, fy⟩, bw⟩ := Qa HBX w2 (hbel.trans (b2.mono (by omega)))
       clear HBX
       go_wp2_with fail
       refine bodyPost_ret (v := TV.val ⟨0, ⟨#[]⟩, 0, 0, 0, 7, (m : Int)⟩) (by simp [results, Tryz.results58, go_sem, x0, x1, x2, x3, y0, y1]) rfl ?_
       exact ⟨Qdu (Qa H).symm, Qar bw (Nat.le_refl _) (Nat.le_succ _) _ _ _ _ _ _⟩
      obtain ⟨d, b, hlt2, hdd, hev⟩ : ∃ d b, ∃ h : m + 1 < s.size, (s.data.toList.drop (m + 1) = d :: s.data.toList.drop (m + 2) ∧ esc d = some b) ∧ ev = (b.toNat : Int) := by
       by_cases h2 : m + 1 < s.size
       ·
        have e4 := Qb s (m + 1) h2
        rw [e4, show escR (s[m + 1] :: _) = escI (bv s[m + 1]) from rfl] at he
        cases hd2 : esc s[m + 1] with
        | none => rw [Jaf hd2] at he; cases he
        | some b => rw [Qqs hd2] at he; injection he with he _; exact ⟨s[m + 1], b, h2, ⟨e4, hd2⟩, he.symm⟩
       · rw [Qdn s (m + 1) (by omega)] at he; cases he
      have HT := hide (show txScan (s.data.toList.drop m) = (txScan (s.data.toList.drop (m + 2))).pre b 2 by
       rw [hd, hdd.1, tx_esc hdd.2])
      clear hd hdd he htx hnil hul
      subst hev
      go_wp2_with fail
      refine (Qa HE _).mono ?_
      rintro e w1 ⟨rfl, rfl⟩
      simp only []
      go_wp2_with (at_builtin; refine wpList_append_own _ rfl _ _ 51 rfl (w.heap.size + 2) 5 i0 (.int .u8 0) 1 1 Tryz.underlying51 (Qa HI).1 (Qa HI).2.1 (Qa HI).2.2.1 (Qa HI).2.2.2 rfl (by decide) _ _ _ rfl (hown.alloc _) ⟨_, 0, none⟩ 1 1 [.int .u8 (b.toNat : Int)] rfl rfl (Qmd _ _) (Qqi _) (by unfold maxLen; omega) (by omega) (by simp; omega) ?_; intro v' w3 hown' hgrow _)
      go_roundw
      case rel =>
       have := Qzg (n := 2) (c := b) rfl (by have := Qa HW0; omega) (Qa HH) (by omega) (by omega) (Qa HT) hown' hgrow
       rw [show ((m + 2 : Nat) : Int) = (m : Int) + 1 + 1 by omega] at this; exact this
      case measure => simp [intOf]; omega
    | false =>
     have n3 := beq_eq_false_iff_ne.1 e3
     have HT := hide (show txScan (s.data.toList.drop m) = (txScan (s.data.toList.drop (m + 1))).pre s[m] 1 by
      rw [Qb s m hlt, Jbu (fun e => n1 (by rw [e]; rfl)) (fun e => n2 (by rw [e]; rfl)) (fun e => n3 (by rw [e]; rfl))])
     clear htx hnil
     go_wp2_with (at_builtin; refine wpList_append_own _ rfl _ _ 51 rfl (w.heap.size + 2) 5 i0 (.int .u8 0) 1 1 Tryz.underlying51 (Qa HI).1 (Qa HI).2.1 (Qa HI).2.2.1 (Qa HI).2.2.2 rfl (by decide) _ _ _ rfl (hown.alloc _) ⟨_, 0, none⟩ 1 1 [.int .u8 (s[m].toNat : Int)] rfl rfl (Qmd _ _) (Qqi _) (by unfold maxLen; omega) (by omega) (by simp; omega) ?_; intro v' w3 hown' hgrow _)
     go_roundw
     case rel =>
      have := Qzg (n := 1) (c := s[m]) rfl (by have := Qa HW0; omega) (Qa HH) (by omega) (by omega) (Qa HT) hown' hgrow
      simpa using this
     case measure => simp [intOf]; omega
 have H := hide (show resT k (txRes (s.data.toList.drop (k + 1))) = ⟨0, ⟨#[]⟩, 0, 0, 0, 7, (k : Int)⟩ by
  unfold txRes; rw [htx, Qdn s m (by omega)]
  simp [txScan, TR.app, resT])
 clear htx hnil hown
 go_wp2_with fail
 refine (Qcw _ _ _).mono ?_
 rintro e w2 ⟨rfl, b2⟩
 obtain ⟨⟨x0, x1, x2, x3, y0, y1, fx, fy⟩, bw⟩ := Qa HBX w2 (hbel.trans (b2.mono (by omega)))
 clear HBX
 go_wp2_with fail
 refine bodyPost_ret (v := TV.val ⟨0, ⟨#[]⟩, 0, 0, 0, 7, (k : Int)⟩) (by simp [results, Tryz.results58, go_sem, x0, x1, x2, x3, y0, y1]) rfl ?_
 exact ⟨Qdu (Qa H).symm, Qar bw (Nat.le_refl _) (Nat.le_succ _) _ _ _ _ _ _⟩
end
end Go.Proofs.YtccehgfecaamoaaGreatDoor
