/- term's builder: what is written stands behind what stood. term's writeSym. The library's contracts on strconv.Itoa and a Builder's String, laid at this program. The texts of a number and of a symbol. -/
import Derived.Test.YtccehgfecaamoaaGreatDoorQb05
import Derived.Shelf.Strings.BuilderK
import Derived.Lib.ItoaNum
import Derived.Shelf.LaysM
import Derived.Shelf.Strconv.Itoa3
import Derived.Test.YtccehgfecaamoaaGreatDoorProg
import Derived.Test.YtccehgfecaamoaaGreatDoorQb21
set_option maxRecDepth 100000
set_option maxHeartbeats 32000000
namespace Go.Proofs.YtccehgfecaamoaaGreatDoor.Trm
open Go.RowKit

abbrev Bld (B b : Nat) (l : List UInt8) (w : World) : Prop := Lib.IsBuilderF 53 5 B b (Lib.byteCells l) w
structure Kept (B b : Nat) (w w' : World) : Prop where
 below : Below B w w'
 others : Lib.OthersKept 5 (some b) w w'
theorem Kept.refl (B b : Nat) (w : World) : Kept B b w w := ⟨Below.refl _ _, Lib.OthersKept.refl _ _ _⟩
theorem Kept.trans {B b : Nat} {u w w' : World} (h : Kept B b u w) (k : Kept B b w w') : Kept B b u w' := ⟨h.below.trans k.below, h.others.trans k.others⟩

theorem neB : (53 : Nat) ≠ 5 := by decide

theorem Qok (b : Nat) (w : World) (h0 : w.cell? ⟨b, 0, none⟩ = some (.pointer none)) (hsh : w.shape? b = some (53, 2)) (hfz : w.frozen? ⟨b, 0, none⟩ = false) :
  Calls Tryz.prog 127 #[.pointer (some ⟨b, 0, none⟩)] w fun e w' => e = .returned (.tuple #[]) ∧ w' = w.setCell ⟨b, 0, none⟩ (.pointer (some ⟨b, 0, none⟩)) := by
 obtain ⟨j, hj, hjs⟩ := Option.map_eq_some_iff.1 (show (Tryz.prog.info? 53).map (·.size) = some 2 by kernel_rfl)
 go_enter Tryz.func127, Tryz.ntmps127
 go_wp2_with fail
 rw [Lib.run_to_unsafe w ⟨b, 0, none⟩ Tryz.underlying50 Tryz.underlying202 hj (by rw [hjs]; decide) hsh (Nat.zero_lt_succ 1)]
 simp only [Result.andThen]
 rw [Oper.upon_value]
 go_wp2_with fail
 rw [run_callFunc_extern Tryz.func145 (by kernel_rfl) (by kernel_rfl) (by kernel_rfl) (e := Extern.AbiNoEscape.same) (by kernel_rfl), Lib.run_noEscape]
 simp only [Result.andThen]
 rw [Oper.upon_value]
 go_wp2_with fail
 rw [Lib.run_from_unsafe w ⟨b, 0, none⟩ Tryz.underlying202 Tryz.underlying50 hj hsh (by kernel_rfl)]
 simp only [Result.andThen]
 rw [Oper.upon_value]
 go_wp2_with fail
 go_end0
 exact ⟨rfl, rfl⟩

theorem Qso (b : Nat) (w : World) (h0 : w.cell? ⟨b, 0, none⟩ = some (.pointer (some ⟨b, 0, none⟩))) :
  Calls Tryz.prog 127 #[.pointer (some ⟨b, 0, none⟩)] w fun e w' => e = .returned (.tuple #[]) ∧ w' = w := by
 obtain ⟨j, hj, hjs⟩ := Option.map_eq_some_iff.1 (show (Tryz.prog.info? 53).map (·.size) = some 2 by kernel_rfl)
 go_enter Tryz.func127, Tryz.ntmps127
 go_wp2_with fail
 rw [Lib.run_neq_ptr_same w _ Tryz.underlying50 hj]
 go_wp2_with fail
 go_end0
 exact ⟨rfl, rfl⟩

theorem Qme (B b : Nat) (l : List UInt8) (w : World) (h : Bld B b l w) :
  Calls Tryz.prog 127 #[.pointer (some ⟨b, 0, none⟩)] w fun e w' => e = .returned (.tuple #[]) ∧ Lib.BuilderAtF 53 5 B b (.pointer (some ⟨b, 0, none⟩)) (Lib.byteCells l) w' ∧ Kept B b w w' := by
 rcases h with h | h
 ·
  refine (Qok b w h.cell0 h.shape h.frozen0).mono ?_
  rintro e w' ⟨rfl, rfl⟩
  exact ⟨rfl, h.used _, (Below.refl B w).setCell (p := ⟨b, 0, none⟩) h.1 _, (Lib.OthersKept.refl _ _ w).setCell ⟨b, 0, none⟩ rfl _⟩
 refine (Qso b w h.cell0).mono ?_
 rintro e w' ⟨rfl, rfl⟩
 exact ⟨rfl, h, Kept.refl _ _ _⟩

theorem info5 : (Tryz.prog.info? 5).map (fun i => (i.zero, i.size, i.bytes)) = some (some (.int .u8 0), 1, 1) := by kernel_rfl
theorem Qjg (l : List UInt8) (c : UInt8) : Lib.byteCells (l ++ [c]) = Lib.byteCells l ++ [.int .u8 (c.toNat : Int)] := by simp [Lib.byteCells]
theorem Qkr (l m : List UInt8) : Lib.byteCells (l ++ m) = Lib.byteCells l ++ Lib.byteCells m := by simp [Lib.byteCells]

theorem Qjc (B b : Nat) (l : List UInt8) (c : UInt8) (n : Int) (hn : n = (c.toNat : Int)) (w : World) (h : Bld B b l w) (hlen : l.length + 1 ≤ 140737488355328) (hBw : B ≤ w.heap.size) :
  Calls Tryz.prog 173 #[.pointer (some ⟨b, 0, none⟩), .int .u8 n] w fun e w' => e = .returned .nilIface ∧ Bld B b (l ++ [c]) w' ∧ Kept B b w w' := by
 obtain ⟨i0, hi, hz0, hz1, hz2⟩ := info_parts info5
 have hcl : (Lib.byteCells l).length = l.length := Lib.byteCells_length l
 have HN := hide hn
 clear hn
 go_enter Tryz.func173, Tryz.ntmps173
 go_wp2_with fail
 refine (Qme B b l _ h).mono ?_
 rintro e w1 ⟨rfl, ⟨hB, v, hbk, hown, hne⟩, hk1⟩
 have c0 : w1.cell? ⟨b, 0, none⟩ = some (.pointer (some ⟨b, 0, none⟩)) := by rw [Lib.cell_of_heap hbk]; rfl
 have c1 : w1.cell? ⟨b, 1, none⟩ = some v := by rw [Lib.cell_of_heap hbk]; rfl
 have hs1 := hk1.below.size
 go_wp2_with (at_builtin; refine wpList_append_ownF _ rfl _ _ 51 rfl B 5 i0 (.int .u8 0) 1 1 Tryz.underlying51 hi hz0 hz1 hz2 rfl (by decide) _ _ _ rfl (hown.alloc _) ⟨w1.heap.size, 0, none⟩ 1 1 [.int .u8 n] rfl rfl ?q1 ?q2 ?q3 ?q4 ?q5 ?_)
 case q1 =>
  intro j u hj
  match j, hj with
  | 0, hj => simp at hj; subst hj; simp [Addr.add]
 case q2 => intro u hu; simp at hu; subst hu; rfl
 case q3 => rw [hcl]; unfold maxLen; omega
 case q4 => rw [hcl]; omega
 case q5 => simp; omega
 intro v' w2 hown' hgrow _
 have hlt : b < w1.heap.size := (Array.getElem?_eq_some_iff.1 hbk).1
 have hb2 : w2.heap[b]? = some (.cells #[.pointer (some ⟨b, 0, none⟩), v] 53 (0, 0)) := by
  rw [hgrow.block b (by simp; omega) (fun e => hne e.symm), Lib.alloc_old w1 _ b hlt]
  exact hbk
 have d0 : w2.cell? ⟨b, 0, none⟩ = some (.pointer (some ⟨b, 0, none⟩)) := by rw [Lib.cell_of_heap hb2]; rfl
 have d1 : w2.cell? ⟨b, 1, none⟩ = some v := by rw [Lib.cell_of_heap hb2]; rfl
 have f1 : w2.frozen? ⟨b, 1, none⟩ = false := Lib.frozen_of_heap hb2 1
 obtain ⟨ao, n', cap, rfl⟩ : ∃ ao n' cap, v' = .slice ao n' cap := by
  rcases hown'.2 with ⟨hv, _⟩ | ⟨g, cap, cur, fz, hv, _⟩
  · exact ⟨_, _, _, hv⟩
  · exact ⟨_, _, _, hv⟩
 go_wp2_with fail
 go_ret
 have hk2 : Kept B b w w2 := ⟨(hk1.below.alloc (by omega) _).grown hgrow (by simp; omega) (fun k hk => (hown.lt k hk).1), (hk1.others.alloc _).grown hgrow (Lib.ownsRowF_kind (hown.alloc _))⟩
 refine ⟨rfl, .inr ?_, hk2.below.setCell (p := ⟨b, 1, none⟩) hB _, hk2.others.setCell ⟨b, 1, none⟩ rfl _⟩
 rw [Qjg, ← Qa HN]
 exact Lib.BuilderAtF.put (T := 53) (e := 5) hB hb2 (by simpa [hcl] using hown') neB

theorem Qhx (B b : Nat) (l : List UInt8) (s : ByteArray) (w : World) (h : Bld B b l w) (hlen : l.length + s.size ≤ 140737488355328) (hBw : B ≤ w.heap.size) :
  Calls Tryz.prog 99 #[.pointer (some ⟨b, 0, none⟩), .string s] w fun e w' => e = .returned (.tuple #[.int .i64 s.size, .nilIface]) ∧ Bld B b (l ++ s.data.toList) w' ∧ Kept B b w w' := by
 obtain ⟨i0, hi, hz0, hz1, hz2⟩ := info_parts info5
 have hcl : (Lib.byteCells l).length = l.length := Lib.byteCells_length l
 go_enter Tryz.func99, Tryz.ntmps99
 go_wp2_with fail
 refine (Qme B b l _ h).mono ?_
 rintro e w1 ⟨rfl, ⟨hB, v, hbk, hown, hne⟩, hk1⟩
 have c0 : w1.cell? ⟨b, 0, none⟩ = some (.pointer (some ⟨b, 0, none⟩)) := by rw [Lib.cell_of_heap hbk]; rfl
 have c1 : w1.cell? ⟨b, 1, none⟩ = some v := by rw [Lib.cell_of_heap hbk]; rfl
 have hs1 := hk1.below.size
 go_wp2_with (at_builtin; refine Lib.wpList_append_own_stringF _ rfl _ _ 51 9 rfl B 5 i0 Tryz.underlying51 Tryz.underlying9 hi hz0 hz1 hz2 _ _ _ rfl hown s rfl ?q3 ?q4 ?q5 ?_)
 case q3 => rw [hcl]; unfold maxLen; omega
 case q4 => rw [hcl]; omega
 case q5 => omega
 intro v' w2 hown' hgrow _
 have hlt : b < w1.heap.size := (Array.getElem?_eq_some_iff.1 hbk).1
 have hb2 : w2.heap[b]? = some (.cells #[.pointer (some ⟨b, 0, none⟩), v] 53 (0, 0)) := by
  rw [hgrow.block b hlt (fun e => hne e.symm)]
  exact hbk
 have d0 : w2.cell? ⟨b, 0, none⟩ = some (.pointer (some ⟨b, 0, none⟩)) := by rw [Lib.cell_of_heap hb2]; rfl
 have d1 : w2.cell? ⟨b, 1, none⟩ = some v := by rw [Lib.cell_of_heap hb2]; rfl
 have f1 : w2.frozen? ⟨b, 1, none⟩ = false := Lib.frozen_of_heap hb2 1
 obtain ⟨ao, n', cap, rfl⟩ : ∃ ao n' cap, v' = .slice ao n' cap := by
  rcases hown'.2 with ⟨hv, _⟩ | ⟨g, cap, cur, fz, hv, _⟩
  · exact ⟨_, _, _, hv⟩
  · exact ⟨_, _, _, hv⟩
 go_wp2_with fail
 go_ret2
 have hk2 : Kept B b w w2 := ⟨hk1.below.grown hgrow (by omega) (fun k hk => (hown.lt k hk).1), hk1.others.grown hgrow (Lib.ownsRowF_kind hown)⟩
 refine ⟨rfl, .inr ?_, hk2.below.setCell (p := ⟨b, 1, none⟩) hB _, hk2.others.setCell ⟨b, 1, none⟩ rfl _⟩
 rw [Qkr]
 exact Lib.BuilderAtF.put (T := 53) (e := 5) hB hb2 (bs' := Lib.byteCells l ++ Lib.byteCells s.data.toList) (by
  have e : Lib.byteCells s.data.toList = Lib.strCells s := rfl
  rw [e]
  simpa [hcl, Lib.strCells_length] using hown') neB
end Go.Proofs.YtccehgfecaamoaaGreatDoor.Trm
namespace Go.Proofs.YtccehgfecaamoaaGreatDoor.Trm
open Go.RowKit

def esc (c : UInt8) : List UInt8 := if c = 34 then [92, 34] else if c = 92 then [92, 92] else if c = 10 then [92, 110] else if c = 9 then [92, 116] else [c]
def escs (l : List UInt8) : List UInt8 := l.flatMap esc
def quoted (s : ByteArray) : List UInt8 := [34] ++ escs s.data.toList ++ [34]
theorem esc_len (c : UInt8) : (esc c).length ≤ 2 := by
 unfold esc
 repeat (split; · simp)
 simp
theorem escs_len : ∀ l : List UInt8, (escs l).length ≤ 2 * l.length
 | [] => by simp [escs]
 | c :: l => by
  have h1 := escs_len l
  have h2 := esc_len c
  have : escs (c :: l) = esc c ++ escs l := rfl
  rw [this, List.length_append, List.length_cons]; omega
theorem Qvv (l : List UInt8) (c : UInt8) : escs (l ++ [c]) = escs l ++ esc c := by simp [escs]
theorem itoa_len {n : Int} (h0 : -9223372036854775808 ≤ n) (h1 : n ≤ 9223372036854775807) : (Lib.itoa n).length ≤ 21 := by
 have hd : (Lib.decDigits n.natAbs).length ≤ 20 := by
  rw [Lib.decDigits_length]
  by_cases h1 : 1 ≤ n.natAbs
  ·
   have := Lib.numDigits_eq n.natAbs h1 (by omega)
   split at this <;> omega
  · rw [Lib.nDigits_small (by omega)]; omega
 unfold Lib.itoa
 split
 · simp only [List.length_cons]; omega
 have e : n.toNat = n.natAbs := by omega
 rw [e]; omega

theorem Qja (s : ByteArray) (k : Nat) (h : k < s.size) : s.data.toList.take (k + 1) = s.data.toList.take k ++ [s[k]] := by
 rw [List.take_succ_eq_append_getElem (by simpa using h)]; rfl
theorem Jbo (s : ByteArray) : s.data.toList.take s.size = s.data.toList := List.take_of_length_le (by rw [Array.length_toList]; exact Nat.le_refl _)
theorem Qks {c : UInt8} {n : Nat} (hn : n < 256) : ((c.toNat : Int) == (n : Int)) = decide (c = UInt8.ofNat n) := by
 by_cases h : c = UInt8.ofNat n
 ·
  subst h
  rw [decide_eq_true rfl]
  have : (UInt8.ofNat n).toNat = n := by simp; omega
  rw [this]; simp
 rw [decide_eq_false h]
 rw [beq_eq_false_iff_ne]
 intro e
 exact h (UInt8.toNat_inj.1 (by simp; omega))

def escTo (s : ByteArray) (k : Nat) : List UInt8 := escs (s.data.toList.take k)
theorem Qsy {s : ByteArray} {k : Nat} (h : k < s.size) : escTo s (k + 1) = escTo s k ++ esc s[k] := by
 unfold escTo
 rw [Qja s k h, Qvv]
theorem Qvu (s : ByteArray) (k : Nat) : (escTo s k).length ≤ 2 * s.size := by
 have h1 := escs_len (s.data.toList.take k)
 have h2 : (s.data.toList.take k).length ≤ s.size := by
  rw [List.length_take, Array.length_toList]
  exact Nat.min_le_right _ _
 unfold escTo; omega

theorem wsym_any (B b : Nat) (l : List UInt8) (s : ByteArray) (w : World) (h : Bld B b l w) (hlen : l.length ≤ 1000000000000) (hs : s.size ≤ 65536) (hBw : B ≤ w.heap.size) :
  Calls Tryz.prog 164 #[.pointer (some ⟨b, 0, none⟩), .string s] w fun e w' => e = .returned (.tuple #[]) ∧ Bld B b (l ++ quoted s) w' ∧ Kept B b w w' := by
 have HQ : Hid (l ++ [34] ++ escTo s s.size ++ [34] = l ++ quoted s) := by
  show _ = _
  unfold escTo quoted
  rw [Jbo]; simp
 go_enter Tryz.func164, Tryz.ntmps164
 go_wp2_with fail
 refine (Qjc B b l 34 34 rfl _ h (by omega) hBw).mono ?_
 rintro e w1 ⟨rfl, h1, k1⟩
 have HB1 := hide h1
 have HK1 := hide k1
 clear h1 k1 h
 go_wp2_with fail
 go_loopw [9] (fun i wr => ∃ k : Nat, k ≤ s.size ∧ i = .int .i64 k ∧ Hid (Bld B b (l ++ [34] ++ escTo s k) wr) ∧ Hid (Kept B b w wr)) (fun i _ => s.size - (intOf i).toNat)
 case atStart =>
  refine ⟨0, Nat.zero_le _, rfl, ?_, HK1⟩
  have e0 : l ++ [34] ++ escTo s 0 = l ++ [34] := by simp [escTo, escs]
  rw [e0]; exact HB1
 obtain ⟨k, hk, rfl, hb, hkp⟩ := hrel
 have hszr : Hid (B ≤ wr.heap.size) := Nat.le_trans hBw (Qa hkp).below.size
 have hln : Hid ((l ++ [34] ++ escTo s k).length + 2 ≤ 140737488355328) := by
  have := Qvu s k
  show _ ≤ _
  simp only [List.length_append, List.length_cons, List.length_nil]; omega
 by_cases hlt : k < s.size
 ·
  have hst := hide (Qsy hlt)
  have q34 := Qks (c := s[k]) (n := 34) (by omega)
  have q92 := Qks (c := s[k]) (n := 92) (by omega)
  have q10 := Qks (c := s[k]) (n := 10) (by omega)
  have q9 := Qks (c := s[k]) (n := 9) (by omega)
  have fin : ∀ (w2 : World) (x : List UInt8), x = esc s[k] → Bld B b (l ++ [34] ++ escTo s k ++ x) w2 → Kept B b wr w2 → Hid (Bld B b (l ++ [34] ++ escTo s (k + 1)) w2) ∧ Hid (Kept B b w w2) := fun w2 x hx h1 h2 => by
   refine ⟨?_, (Qa hkp).trans h2⟩
   show Bld _ _ _ _
   rw [Qa hst, ← List.append_assoc, ← hx]; exact h1
  have FIN := hide fin
  clear fin hkp
  by_cases e1 : s[k] = 34
  ·
   have b1 : ((s[k].toNat : Int) == 34) = true := by rw [show (34 : Int) = ((34 : Nat) : Int) from rfl, q34]; exact decide_eq_true e1
   have E1 : Hid ([92, 34] = esc s[k]) := by show _ = _; unfold esc; rw [if_pos e1]
   clear e1 q34 q92 q10 q9
   go_wp2_with fail
   refine (Qhx B b _ ⟨#[92, 34]⟩ _ (Qa hb) (show _ + 2 ≤ _ from Qa hln) (Qa hszr)).mono ?_
   rintro e w2 ⟨rfl, h2, k2⟩
   have hF := Qa FIN _ _ (Qa E1) h2 k2
   clear h2 k2
   go_wp2_with fail
   go_roundw
   case rel => exact ⟨k + 1, by omega, by go_num, hF.1, hF.2⟩
   case measure => simp [intOf]; omega
  have b34 : ((s[k].toNat : Int) == 34) = false := by rw [show (34 : Int) = ((34 : Nat) : Int) from rfl, q34]; exact decide_eq_false e1
  by_cases e2 : s[k] = 92
  ·
   have b92 : ((s[k].toNat : Int) == 92) = true := by rw [show (92 : Int) = ((92 : Nat) : Int) from rfl, q92]; exact decide_eq_true e2
   have E1 : Hid ([92, 92] = esc s[k]) := by show _ = _; unfold esc; rw [if_neg e1, if_pos e2]
   clear e1 e2 q34 q92 q10 q9
   go_wp2_with fail
   refine (Qhx B b _ ⟨#[92, 92]⟩ _ (Qa hb) (show _ + 2 ≤ _ from Qa hln) (Qa hszr)).mono ?_
   rintro e w2 ⟨rfl, h2, k2⟩
   have hF := Qa FIN _ _ (Qa E1) h2 k2
   clear h2 k2
   go_wp2_with fail
   go_roundw
   case rel => exact ⟨k + 1, by omega, by go_num, hF.1, hF.2⟩
   case measure => simp [intOf]; omega
  have b92 : ((s[k].toNat : Int) == 92) = false := by rw [show (92 : Int) = ((92 : Nat) : Int) from rfl, q92]; exact decide_eq_false e2
  by_cases e3 : s[k] = 10
  ·
   have b10 : ((s[k].toNat : Int) == 10) = true := by rw [show (10 : Int) = ((10 : Nat) : Int) from rfl, q10]; exact decide_eq_true e3
   have E1 : Hid ([92, 110] = esc s[k]) := by show _ = _; unfold esc; rw [if_neg e1, if_neg e2, if_pos e3]
   clear e1 e2 e3 q34 q92 q10 q9
   go_wp2_with fail
   refine (Qhx B b _ ⟨#[92, 110]⟩ _ (Qa hb) (show _ + 2 ≤ _ from Qa hln) (Qa hszr)).mono ?_
   rintro e w2 ⟨rfl, h2, k2⟩
   have hF := Qa FIN _ _ (Qa E1) h2 k2
   clear h2 k2
   go_wp2_with fail
   go_roundw
   case rel => exact ⟨k + 1, by omega, by go_num, hF.1, hF.2⟩
   case measure => simp [intOf]; omega
  have b10 : ((s[k].toNat : Int) == 10) = false := by rw [show (10 : Int) = ((10 : Nat) : Int) from rfl, q10]; exact decide_eq_false e3
  by_cases e4 : s[k] = 9
  ·
   have b9 : ((s[k].toNat : Int) == 9) = true := by rw [show (9 : Int) = ((9 : Nat) : Int) from rfl, q9]; exact decide_eq_true e4
   have E1 : Hid ([92, 116] = esc s[k]) := by show _ = _; unfold esc; rw [if_neg e1, if_neg e2, if_neg e3, if_pos e4]
   clear e1 e2 e3 e4 q34 q92 q10 q9
   go_wp2_with fail
   refine (Qhx B b _ ⟨#[92, 116]⟩ _ (Qa hb) (show _ + 2 ≤ _ from Qa hln) (Qa hszr)).mono ?_
   rintro e w2 ⟨rfl, h2, k2⟩
   have hF := Qa FIN _ _ (Qa E1) h2 k2
   clear h2 k2
   go_wp2_with fail
   go_roundw
   case rel => exact ⟨k + 1, by omega, by go_num, hF.1, hF.2⟩
   case measure => simp [intOf]; omega
  have b9 : ((s[k].toNat : Int) == 9) = false := by rw [show (9 : Int) = ((9 : Nat) : Int) from rfl, q9]; exact decide_eq_false e4
  have E1 : Hid ([s[k]] = esc s[k]) := by show _ = _; unfold esc; rw [if_neg e1, if_neg e2, if_neg e3, if_neg e4]
  clear e1 e2 e3 e4 q34 q92 q10 q9
  go_wp2_with fail
  refine (Qjc B b _ s[k] _ rfl _ (Qa hb) (by have := Qa hln; omega) (Qa hszr)).mono ?_
  rintro e w2 ⟨rfl, h2, k2⟩
  have hF := Qa FIN _ _ (Qa E1) h2 k2
  clear h2 k2
  go_wp2_with fail
  go_roundw
  case rel => exact ⟨k + 1, by omega, by go_num, hF.1, hF.2⟩
  case measure => simp [intOf]; omega
 have : k = s.size := by omega
 subst this
 go_wp2_with fail
 refine (Qjc B b _ 34 34 rfl _ (Qa hb) (by have := Qa hln; omega) (Qa hszr)).mono ?_
 rintro e w2 ⟨rfl, h2, k2⟩
 have hF : Kept B b w w2 := (Qa hkp).trans k2
 rw [Qa HQ] at h2
 have H2 := hide h2
 clear h2 k2 hkp
 go_wp2_with fail
 go_end0
 exact ⟨rfl, Qa H2, hF⟩

theorem Bld.later {B b : Nat} {l : List UInt8} {w w' : World} (h : Bld B b l w) (hb : Below w.heap.size w w') : Bld B b l w' := by
 have key : ∀ p, Lib.BuilderAtF 53 5 B b p (Lib.byteCells l) w → Lib.BuilderAtF 53 5 B b p (Lib.byteCells l) w' := fun p h => by
  obtain ⟨hB, v, hbk, hown, hne⟩ := h
  refine ⟨hB, v, (hb.block b (Array.getElem?_eq_some_iff.1 hbk).1).trans hbk, ⟨hown.1, ?_⟩, hne⟩
  rcases hown.2 with e | ⟨g, cap, cur, fz, hv, hg1, hg2, r⟩
  · exact .inl e
  · exact .inr ⟨g, cap, cur, fz, hv, hg1, (hb.block g (Array.getElem?_eq_some_iff.1 hg2).1).trans hg2, r⟩
 exact h.elim (fun x => .inl (key _ x)) (fun x => .inr (key _ x))
end Go.Proofs.YtccehgfecaamoaaGreatDoor.Trm
namespace Go.Proofs
open Go.Shelf
def Tryz.lays169_ren : Go.Shelf.Ren := ⟨fun | 169 => 14 | n => n, fun | 70 => 50 | 9 => 9 | 0 => 0 | 72 => 53 | 37 => 51 | 127 => 107 | 3 => 3 | 5 => 5 | n => n, fun | n => n⟩
theorem Tryz.lays169 : Go.Proofs.Lays.n169 Tryz.prog Tryz.lays169_ren := {
  mixed := by kernel_rfl
  f169 := Tryz.func14.trans (congrArg some (by kernel_rfl))
  t0 := Tryz.underlying0
  a0 := Tryz.isAgg0
  z0 := Tryz.sizeOf0
  v0 := Tryz.zeroValue0
  t3 := Tryz.underlying3
  a3 := Tryz.isAgg3
  z3 := Tryz.sizeOf3
  v3 := Tryz.zeroValue3
  t9 := Tryz.underlying9
  a9 := Tryz.isAgg9
  z9 := Tryz.sizeOf9
  v9 := Tryz.zeroValue9
  t37 := Tryz.underlying51
  a37 := Tryz.isAgg51
  z37 := Tryz.sizeOf51
  v37 := Tryz.zeroValue51
  t70 := Tryz.underlying50
  a70 := Tryz.isAgg50
  z70 := Tryz.sizeOf50
  v70 := Tryz.zeroValue50
  t72 := Tryz.underlying53
  a72 := Tryz.isAgg53
  z72 := Tryz.sizeOf53
  v72 := Tryz.zeroValue53
  t127 := Tryz.underlying107
  a127 := Tryz.isAgg107
  z127 := Tryz.sizeOf107
  v127 := Tryz.zeroValue107 }
theorem Tryz.Builder_Extra_169 : Builder.Extra Tryz.prog Tryz.lays169_ren := {
  sizeBuilder := by kernel_rfl
  liesBuilder := by kernel_rfl
  t5 := Tryz.underlying5
  a5 := Tryz.isAgg5
  z5 := Tryz.sizeOf5
  v5 := Tryz.zeroValue5
  infoByte := by kernel_rfl
  cellsByte := by kernel_rfl
  sizeByte := by kernel_rfl
  neB5 := by decide }
open Go.RowKit in
theorem Tryz.Builder_String_k (B b : Nat) (l : List UInt8) (w : World) (h : Lib.IsBuilderF 53 5 B b (Lib.byteCells l) w) (h0 : l ≠ []) :
    Calls Tryz.prog 14 #[.pointer (some ⟨b, 0, none⟩)] w fun e w' => e = .returned (.string ⟨l.toArray⟩) ∧ (Lib.IsBuilderF 53 5 B b (Lib.byteCells l) w' ∧ Below B w w' ∧ Lib.OthersKept 5 (some b) w w') := Any.Builder_String_k Tryz.lays169 Tryz.Builder_Extra_169 B b l w h h0
def Tryz.laysM171_ren : Go.Shelf.Ren := ⟨fun | 171 => 146 | 243 => 162 | 246 => 170 | 283 => 178 | 284 => 179 | 285 => 180 | 286 => 181 | 129 => 186 | 317 => 185 | 318 => 187 | 319 => 188 | 320 => 189 | 337 => 190 | 338 => 191 | n => n, fun | 3 => 3 | 9 => 9 | 2 => 2 | 4 => 4 | 171 => 235 | 0 => 0 | 53 => 221 | 37 => 51 | 5 => 5 | 173 => 238 | 212 => 242 | 51 => 206 | 20 => 20 | 213 => 243 | 46 => 194 | 232 => 247 | 233 => 248 | n => n, fun | 17 => 5 | 18 => 6 | 19 => 7 | n => n⟩
theorem Tryz.laysM171 : Go.Proofs.LaysM.n171 Tryz.prog Tryz.laysM171_ren := {
  mixed := by kernel_rfl
  f129 := Tryz.func186.trans (congrArg some (by kernel_rfl))
  f171 := Tryz.func146.trans (congrArg some (by kernel_rfl))
  f243 := Tryz.func162.trans (congrArg some (by kernel_rfl))
  f246 := Tryz.func170.trans (congrArg some (by kernel_rfl))
  f283 := Tryz.func178.trans (congrArg some (by kernel_rfl))
  f284 := Tryz.func179.trans (congrArg some (by kernel_rfl))
  f285 := Tryz.func180.trans (congrArg some (by kernel_rfl))
  f286 := Tryz.func181.trans (congrArg some (by kernel_rfl))
  f317 := Tryz.func185.trans (congrArg some (by kernel_rfl))
  f318 := Tryz.func187.trans (congrArg some (by kernel_rfl))
  f319 := Tryz.func188.trans (congrArg some (by kernel_rfl))
  f320 := Tryz.func189.trans (congrArg some (by kernel_rfl))
  f337 := Tryz.func190.trans (congrArg some (by kernel_rfl))
  f338 := Tryz.func191.trans (congrArg some (by kernel_rfl))
  t0 := Tryz.underlying0
  a0 := Tryz.isAgg0
  z0 := Tryz.sizeOf0
  v0 := Tryz.zeroValue0
  t2 := Tryz.underlying2
  a2 := Tryz.isAgg2
  z2 := Tryz.sizeOf2
  v2 := Tryz.zeroValue2
  t3 := Tryz.underlying3
  a3 := Tryz.isAgg3
  z3 := Tryz.sizeOf3
  v3 := Tryz.zeroValue3
  t4 := Tryz.underlying4
  a4 := Tryz.isAgg4
  z4 := Tryz.sizeOf4
  v4 := Tryz.zeroValue4
  t5 := Tryz.underlying5
  a5 := Tryz.isAgg5
  z5 := Tryz.sizeOf5
  v5 := Tryz.zeroValue5
  t9 := Tryz.underlying9
  a9 := Tryz.isAgg9
  z9 := Tryz.sizeOf9
  v9 := Tryz.zeroValue9
  t20 := Tryz.underlying20
  a20 := Tryz.isAgg20
  z20 := Tryz.sizeOf20
  v20 := Tryz.zeroValue20
  t37 := Tryz.underlying51
  a37 := Tryz.isAgg51
  z37 := Tryz.sizeOf51
  v37 := Tryz.zeroValue51
  t46 := Tryz.underlying194
  a46 := Tryz.isAgg194
  z46 := Tryz.sizeOf194
  v46 := Tryz.zeroValue194
  t51 := Tryz.underlying206
  a51 := Tryz.isAgg206
  z51 := Tryz.sizeOf206
  v51 := Tryz.zeroValue206
  t53 := Tryz.underlying221
  a53 := Tryz.isAgg221
  z53 := Tryz.sizeOf221
  v53 := Tryz.zeroValue221
  t171 := Tryz.underlying235
  a171 := Tryz.isAgg235
  z171 := Tryz.sizeOf235
  v171 := Tryz.zeroValue235
  t173 := Tryz.underlying238
  a173 := Tryz.isAgg238
  z173 := Tryz.sizeOf238
  v173 := Tryz.zeroValue238
  t212 := Tryz.underlying242
  a212 := Tryz.isAgg242
  z212 := Tryz.sizeOf242
  v212 := Tryz.zeroValue242
  t213 := Tryz.underlying243
  a213 := Tryz.isAgg243
  z213 := Tryz.sizeOf243
  t232 := Tryz.underlying247
  a232 := Tryz.isAgg247
  z232 := Tryz.sizeOf247
  v232 := Tryz.zeroValue247
  t233 := Tryz.underlying248
  a233 := Tryz.isAgg248
  z233 := Tryz.sizeOf248
  v233 := Tryz.zeroValue248
  g17 := by kernel_rfl
  g18 := by kernel_rfl
  g19 := by kernel_rfl
  i0 := by kernel_rfl
  i2 := by kernel_rfl
  i3 := by kernel_rfl
  i4 := by kernel_rfl
  i5 := by kernel_rfl
  i9 := by kernel_rfl
  i20 := by kernel_rfl
  i37 := by kernel_rfl
  i46 := by kernel_rfl
  i51 := by kernel_rfl
  i53 := by kernel_rfl
  i171 := by kernel_rfl
  i173 := by kernel_rfl
  i212 := by kernel_rfl
  i232 := by kernel_rfl
  i233 := by kernel_rfl
  m17 := by kernel_rfl
  m18 := by kernel_rfl
  m19 := by kernel_rfl }
open Go.RowKit Go.Sort Go.Lib in
theorem Tryz.strconv_Itoa (n : Int) (h0 : -9223372036854775808 ≤ n) (h1 : n ≤ 9223372036854775807) (w : World) (htab : Lib.TabIs Tryz.prog w "internal/strconv.uint64pow10" .u64 Lib.pow10Tab) :
    Calls Tryz.prog 146 #[.int .i64 n] w fun e w' => e = .returned (.string ⟨(Lib.itoa n).toArray⟩) ∧ ∃ k os, w' = grow (w.drewN k) os := Any.strconv_Itoa Tryz.laysM171 n h0 h1 w htab
end Go.Proofs
namespace Go.Proofs.YtccehgfecaamoaaGreatDoor
section
open Go.RowKit Go.Maps
def qtT (s : Txt) : Txt := [34] ++ Trm.escs s ++ [34]
theorem qtT_len (s : Txt) : (qtT s).length ≤ 2 * s.length + 2 := by
 have h := Trm.escs_len s
 unfold qtT
 simp only [List.length_append, List.length_cons, List.length_nil]
 omega
theorem Jao {n : Int} (h0 : -9223372036854775808 ≤ n) (h1 : n ≤ 9223372036854775807) : (Lib.itoa n).length ≤ 21 := Trm.itoa_len h0 h1
theorem Qpc (n : Int) (h0 : -9223372036854775808 ≤ n) (h1 : n ≤ 9223372036854775807) (w : World) (htab : Lib.TabIs Tryz.prog w "internal/strconv.uint64pow10" .u64 Lib.pow10Tab) :
  Calls Tryz.prog 128 #[.int .i64 n] w fun e w' => e = .returned (.string ⟨(Lib.itoa n).toArray⟩) ∧ Below w.heap.size w w' := by
 go_enter Tryz.func128, Tryz.ntmps128
 go_wp2_with (go_at_call 146; refine (Tryz.strconv_Itoa n h0 h1 _ htab).mono ?_; rintro e w' ⟨rfl, k, os, rfl⟩)
 go_ret
 exact ⟨rfl, Lib.below_grow _ _ (Nat.le_refl _) _ _⟩
theorem cl4v {w : World} {b : Nat} {T : TypeId} {v0 v1 v2 v3 : Value} (h : w.heap[b]? = some (.cells #[v0, v1, v2, v3] T (0, 0))) : w.cell? ⟨b, 0, none⟩ = some v0 ∧ w.cell? ⟨b, 1, none⟩ = some v1 ∧ w.cell? ⟨b, 2, none⟩ = some v2 ∧ w.cell? ⟨b, 3, none⟩ = some v3 :=
 ⟨(Qab h 0).trans rfl, (Qab h 1).trans rfl, (Qab h 2).trans rfl, (Qab h 3).trans rfl⟩
theorem Qpn (s : ByteArray) (hs : s.size ≤ 65536) (w : World) (pb : Nat) (hp : w.heap[pb]? = some (.cells #[.int .i64 1024] 3 (0, 0))) :
  Calls Tryz.prog 163 #[.agg #[.int .i64 2, .int .i64 0, .string s, .slice none 0 0], .pointer (some ⟨pb, 0, none⟩), .int .i64 32] w fun e w' => e = .returned (.bool true) ∧ Below pb w w' := by
 have hpl := Qag hp
 have c0 : ∀ o, (w.alloc o).cell? ⟨pb, 0, none⟩ = some (.int .i64 1024) := fun o => (Qab ((Below.heap_alloc w o pb hpl).trans hp) 0).trans rfl
 have f0 : ∀ o, (w.alloc o).frozen? ⟨pb, 0, none⟩ = false := fun o => by simp [World.frozen?, (Below.heap_alloc w o pb hpl).trans hp]
 have gd : decide ((s.size : Int) ≤ 65536) = true := decide_eq_true (by omega)
 have HP := hide hpl
 clear hp
 go_enter Tryz.func163, Tryz.ntmps163
 go_wp2_with fail
 go_ret
 refine ⟨rfl, ?_⟩
 have hpl := Qa HP
 exact ((Below.refl pb w).setCell (p := ⟨pb, 0, none⟩) (Nat.le_refl _) _).alloc (by simp [World.setCell]; omega) _
theorem Qny (s : ByteArray) (hs : s.size ≤ 65536) (w : World) :
  Calls Tryz.prog 147 #[.agg #[.int .i64 2, .int .i64 0, .string s, .slice none 0 0]] w fun e w' => e = .returned (.bool true) ∧ Below w.heap.size w w' := by
 obtain ⟨w1, hw1⟩ : ∃ w1, w1 = (w.alloc (.cells #[.int .i64 2, .int .i64 0, .string s, .slice none 0 0] 192)).alloc (.cells #[.int .i64 1024] 3) := ⟨_, rfl⟩
 have b1 : Below w.heap.size w w1 := by rw [hw1]; exact ((Below.refl _ w).alloc (Nat.le_refl _) _).alloc (by simp) _
 have n1 : w1.heap[w.heap.size + 1]? = some (.cells #[.int .i64 1024] 3 (0, 0)) := by
  rw [hw1]
  have := heap_alloc_new (w.alloc (.cells #[.int .i64 2, .int .i64 0, .string s, .slice none 0 0] 192)) (.cells #[.int .i64 1024] 3)
  simpa using this
 have hf := Qpn s hs w1 _ n1
 have HW := hide hw1
 have HB := hide b1
 clear hw1 b1 n1
 go_enter Tryz.func147, Tryz.ntmps147
 go_wp2_with fail
 rw [← Qa HW]
 refine hf.mono ?_
 clear hf
 rintro en w2 ⟨rfl, b2⟩
 have HB2 := hide ((Qa HB).trans (b2.mono (by omega)))
 clear b2
 go_wp2_with fail
 go_ret
 exact ⟨rfl, Qa HB2⟩
theorem Qnz (B b : Nat) (s : ByteArray) (hs : s.size ≤ 65536) (w : World) (h : Trm.Bld B b [] w) (hB : B ≤ w.heap.size) :
  Calls Tryz.prog 148 #[.pointer (some ⟨b, 0, none⟩), .agg #[.int .i64 2, .int .i64 0, .string s, .slice none 0 0]] w fun e w' => e = .returned (.tuple #[]) ∧ Trm.Bld B b (Trm.quoted s) w' ∧ Below B w w' := by
 obtain ⟨w1, hw1⟩ : ∃ w1, w1 = w.alloc (.cells #[.int .i64 2, .int .i64 0, .string s, .slice none 0 0] 192) := ⟨_, rfl⟩
 have b1 : Below w.heap.size w w1 := bnw hw1
 have hw := Trm.wsym_any B b [] s w1 (h.later b1) (by simp) hs (Nat.le_trans hB b1.size)
 have HW := hide hw1
 have HB := hide (b1.mono hB)
 clear hw1 b1 h
 go_enter Tryz.func148, Tryz.ntmps148
 go_wp2_with fail
 rw [← Qa HW]
 refine hw.mono ?_
 clear hw
 rintro en w2 ⟨rfl, h2, k2⟩
 have H2 := hide (Ya h2 ((Qa HB).trans k2.below))
 clear h2 k2
 go_wp2_with fail
 go_end0
 exact ⟨rfl, by simpa using (Qa H2).1, (Qa H2).2⟩
theorem Qwh (w : World) : Trm.Bld w.heap.size w.heap.size [] (w.alloc (.cells #[.pointer none, .slice none 0 0] 53)) := by
 refine .inl ⟨Nat.le_refl _, .slice none 0 0, heap_alloc_new w _, ?_, by simp [Value.ownBlock]⟩
 exact World.ownsRowF_of (World.ownsRow_nil _ _ _ _)
theorem Qpo (s : Txt) (hs : s.length ≤ 65536) (w : World) :
  Calls Tryz.prog 129 #[.agg #[.int .i64 2, .int .i64 0, str s, .slice none 0 0]] w fun e w' => e = .returned (str (qtT s)) ∧ Below w.heap.size w w' := by
 have hq : Trm.quoted ⟨s.toArray⟩ = qtT s := by simp [Trm.quoted, qtT]
 have hqn : Trm.quoted ⟨s.toArray⟩ ≠ [] := by simp [Trm.quoted]
 rw [show str s = Value.string ⟨s.toArray⟩ from rfl, ← hq]
 have hs2 : (⟨s.toArray⟩ : ByteArray).size ≤ 65536 := by simpa [ByteArray.size] using hs
 obtain ⟨sb, hsb⟩ : ∃ sb, sb = (⟨s.toArray⟩ : ByteArray) := ⟨_, rfl⟩
 rw [← hsb] at hs2 hqn ⊢
 clear hsb hq
 obtain ⟨w1, hw1⟩ : ∃ w1, w1 = w.alloc (.cells #[.int .i64 2, .int .i64 0, .string sb, .slice none 0 0] 192) := ⟨_, rfl⟩
 have b1 : Below w.heap.size w w1 := bnw hw1
 have n1 : w1.heap[w.heap.size]? = some (.cells #[.int .i64 2, .int .i64 0, .string sb, .slice none 0 0] 192 (0, 0)) := nnw hw1
 have hl1 := Qag n1
 have hr := Qny sb hs2 w1
 obtain ⟨x0, x1, x2, x3⟩ := cl4v n1
 have HW := hide hw1
 have HB := hide (Ya b1 (Ya n1 hl1))
 have HS := hide (Ya hs2 hqn)
 clear hw1 b1 n1 hl1 hs2 hqn hs
 go_enter Tryz.func129, Tryz.ntmps129
 go_wp2_with fail
 rw [← Qa HW]
 refine hr.mono ?_
 clear hr x0 x1 x2 x3
 rintro en w2 ⟨rfl, b2⟩
 obtain ⟨b1, n1, hl1⟩ := Qa HB
 have n2 := (b2.block _ hl1).trans n1
 have hl2 := Qag n2
 have bw2 : Below w.heap.size w w2 := b1.trans (b2.mono b1.size)
 obtain ⟨w3, hw3⟩ : ∃ w3, w3 = w2.alloc (.cells #[.pointer none, .slice none 0 0] 53) := ⟨_, rfl⟩
 have b3 : Below w2.heap.size w2 w3 := bnw hw3
 have f3 := Qwh w2
 rw [← hw3] at f3
 have n3 := (b3.block _ hl2).trans n2
 rw [hw3] at n3
 obtain ⟨x0, x1, x2, x3⟩ := cl4v n3
 have hwr := Qnz _ _ sb (Qa HS).1 w3 f3 b3.size
 have HW3 := hide hw3
 have HB3 := hide (Ya bw2 (b3.mono bw2.size))
 have HZ := hide bw2.size
 clear b1 n1 hl1 n2 hl2 bw2 b2 hw3 b3 f3 n3
 rw [Qa HW3] at hwr
 go_wp2_with fail
 refine hwr.mono ?_
 clear hwr x0 x1 x2 x3
 rintro en w4 ⟨rfl, h4, b4⟩
 have hst := Tryz.Builder_String_k w2.heap.size w2.heap.size _ w4 h4 (Qa HS).2
 have HB4 := hide b4
 clear h4 b4
 go_wp2_with fail
 refine hst.mono ?_
 clear hst
 rintro en w5 ⟨rfl, _, b5, _⟩
 have HB5 := hide b5
 clear b5
 go_wp2_with fail
 go_ret
 refine ⟨rfl, ?_⟩
 obtain ⟨bw2, b3⟩ := Qa HB3
 exact (bw2.trans b3).trans ((((Qa HW3) ▸ (Qa HB4)).trans (Qa HB5)).mono (Qa HZ))
end
end Go.Proofs.YtccehgfecaamoaaGreatDoor
