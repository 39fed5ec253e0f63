/- Walks of the text of a value: writeSym, writeCon, write, Text. -/
import Derived.Test.YtbfkcfhkccicoaaDoorTextD
import Derived.Test.YtbfkcfhkccicoaaDoorShelfB
import Derived.Test.YtbfkcfhkccicoaaDoorShelfI
import Derived.Lib.AppendIntMem
namespace Go.Proofs.YtbfkcfhkccicoaaDoor
open Go.RowKit

theorem ret_str {a b : List UInt8} (h : a = b) : Ending.returned (.string ⟨a.toArray⟩) = .returned (.string ⟨b.toArray⟩) := by rw [h]
theorem take_snoc (s : ByteArray) (k : Nat) (h : k < s.size) : s.data.toList.take (k + 1) = s.data.toList.take k ++ [s[k]] := by
  rw [List.take_succ_eq_append_getElem (by simpa using h)]; rfl
theorem take_all (s : ByteArray) : s.data.toList.take s.size = s.data.toList := List.take_of_length_le (by rw [Array.length_toList]; exact Nat.le_refl _)
theorem byte_eq {c : UInt8} {n : Nat} (hn : n < 256) : ((c.toNat : Int) == (n : Int)) = decide (c = UInt8.ofNat n) := by
  by_cases h : c = UInt8.ofNat n
  · subst h
    rw [decide_eq_true rfl]
    have : (UInt8.ofNat n).toNat = n := by simp; omega
    rw [this]; simp
  · rw [decide_eq_false h]
    rw [beq_eq_false_iff_ne]
    intro e
    exact h (UInt8.toNat_inj.1 (by simp; omega))

/-- The part of a text that is written. -/
def escTo (s : ByteArray) (k : Nat) : List UInt8 := escs (s.data.toList.take k)
theorem escTo_step {s : ByteArray} {k : Nat} (h : k < s.size) : escTo s (k + 1) = escTo s k ++ esc s[k] := by
  unfold escTo
  rw [take_snoc s k h, escs_snoc]
theorem escTo_len (s : ByteArray) (k : Nat) : (escTo s k).length ≤ 2 * s.size := by
  have h1 := escs_len (s.data.toList.take k)
  have h2 : (s.data.toList.take k).length ≤ s.size := by
    rw [List.length_take, Array.length_toList]
    exact Nat.min_le_right _ _
  unfold escTo; omega

set_option maxRecDepth 100000 in
set_option maxHeartbeats 4000000 in
theorem wsym_any (B b : Nat) (l : List UInt8) (s : ByteArray) (w : World) (h : Bld B b l w) (hlen : l.length ≤ 1000000000000) (hs : s.size ≤ 65536) (hBw : B ≤ w.heap.size) :
    Calls Tryd.prog 40 #[.pointer (some ⟨b, 0, none⟩), .string s] w fun e w' => e = .returned (.tuple #[]) ∧ Bld B b (l ++ quoted s) w' ∧ Kept B b w w' := by
  have HQ : Hid (l ++ [34] ++ escTo s s.size ++ [34] = l ++ quoted s) := by
    show _ = _
    unfold escTo quoted
    rw [take_all]; simp
  go_enter Tryd.func40, Tryd.ntmps40
  go_wp2_with fail
  refine (wbyte_any B b l 34 34 rfl _ h (by omega) hBw).mono ?_
  rintro e w1 ⟨rfl, h1, k1⟩
  have HB1 := hide h1
  have HK1 := hide k1
  clear h1 k1 h
  go_wp2_with fail
  go_loopw [9] (fun i wr => ∃ k : Nat, k ≤ s.size ∧ i = .int .i64 k ∧ Hid (Bld B b (l ++ [34] ++ escTo s k) wr) ∧ Hid (Kept B b w wr)) (fun i _ => s.size - (intOf i).toNat)
  case atStart =>
    refine ⟨0, Nat.zero_le _, rfl, ?_, HK1⟩
    have e0 : l ++ [34] ++ escTo s 0 = l ++ [34] := by simp [escTo, escs]
    rw [e0]; exact HB1
  case round =>
    obtain ⟨k, hk, rfl, hb, hkp⟩ := hrel
    have hszr : Hid (B ≤ wr.heap.size) := Nat.le_trans hBw (unhide hkp).below.size
    have hln : Hid ((l ++ [34] ++ escTo s k).length + 2 ≤ 140737488355328) := by
      have := escTo_len s k
      show _ ≤ _
      simp only [List.length_append, List.length_cons, List.length_nil]; omega
    by_cases hlt : k < s.size
    · have hst := hide (escTo_step hlt)
      have q34 := byte_eq (c := s[k]) (n := 34) (by omega)
      have q92 := byte_eq (c := s[k]) (n := 92) (by omega)
      have q10 := byte_eq (c := s[k]) (n := 10) (by omega)
      have q9 := byte_eq (c := s[k]) (n := 9) (by omega)
      have fin : ∀ (w2 : World) (x : List UInt8), x = esc s[k] → Bld B b (l ++ [34] ++ escTo s k ++ x) w2 → Kept B b wr w2 → Hid (Bld B b (l ++ [34] ++ escTo s (k + 1)) w2) ∧ Hid (Kept B b w w2) := fun w2 x hx h1 h2 => by
        refine ⟨?_, (unhide hkp).trans h2⟩
        show Bld _ _ _ _
        rw [unhide hst, ← List.append_assoc, ← hx]; exact h1
      have FIN := hide fin
      clear fin hkp
      by_cases e1 : s[k] = 34
      · have b1 : ((s[k].toNat : Int) == 34) = true := by rw [show (34 : Int) = ((34 : Nat) : Int) from rfl, q34]; exact decide_eq_true e1
        have E1 : Hid ([92, 34] = esc s[k]) := by show _ = _; unfold esc; rw [if_pos e1]
        clear e1 q34 q92 q10 q9
        go_wp2_with fail
        refine (wstr_any B b _ ⟨#[92, 34]⟩ _ (unhide hb) (show _ + 2 ≤ _ from unhide hln) (unhide hszr)).mono ?_
        rintro e w2 ⟨rfl, h2, k2⟩
        have hF := unhide FIN _ _ (unhide E1) h2 k2
        clear h2 k2
        go_wp2_with fail
        go_roundw
        case rel => exact ⟨k + 1, by omega, by go_num, hF.1, hF.2⟩
        case measure => simp [intOf]; omega
      · have b34 : ((s[k].toNat : Int) == 34) = false := by rw [show (34 : Int) = ((34 : Nat) : Int) from rfl, q34]; exact decide_eq_false e1
        by_cases e2 : s[k] = 92
        · have b92 : ((s[k].toNat : Int) == 92) = true := by rw [show (92 : Int) = ((92 : Nat) : Int) from rfl, q92]; exact decide_eq_true e2
          have E1 : Hid ([92, 92] = esc s[k]) := by show _ = _; unfold esc; rw [if_neg e1, if_pos e2]
          clear e1 e2 q34 q92 q10 q9
          go_wp2_with fail
          refine (wstr_any B b _ ⟨#[92, 92]⟩ _ (unhide hb) (show _ + 2 ≤ _ from unhide hln) (unhide hszr)).mono ?_
          rintro e w2 ⟨rfl, h2, k2⟩
          have hF := unhide FIN _ _ (unhide E1) h2 k2
          clear h2 k2
          go_wp2_with fail
          go_roundw
          case rel => exact ⟨k + 1, by omega, by go_num, hF.1, hF.2⟩
          case measure => simp [intOf]; omega
        · have b92 : ((s[k].toNat : Int) == 92) = false := by rw [show (92 : Int) = ((92 : Nat) : Int) from rfl, q92]; exact decide_eq_false e2
          by_cases e3 : s[k] = 10
          · have b10 : ((s[k].toNat : Int) == 10) = true := by rw [show (10 : Int) = ((10 : Nat) : Int) from rfl, q10]; exact decide_eq_true e3
            have E1 : Hid ([92, 110] = esc s[k]) := by show _ = _; unfold esc; rw [if_neg e1, if_neg e2, if_pos e3]
            clear e1 e2 e3 q34 q92 q10 q9
            go_wp2_with fail
            refine (wstr_any B b _ ⟨#[92, 110]⟩ _ (unhide hb) (show _ + 2 ≤ _ from unhide hln) (unhide hszr)).mono ?_
            rintro e w2 ⟨rfl, h2, k2⟩
            have hF := unhide FIN _ _ (unhide E1) h2 k2
            clear h2 k2
            go_wp2_with fail
            go_roundw
            case rel => exact ⟨k + 1, by omega, by go_num, hF.1, hF.2⟩
            case measure => simp [intOf]; omega
          · have b10 : ((s[k].toNat : Int) == 10) = false := by rw [show (10 : Int) = ((10 : Nat) : Int) from rfl, q10]; exact decide_eq_false e3
            by_cases e4 : s[k] = 9
            · have b9 : ((s[k].toNat : Int) == 9) = true := by rw [show (9 : Int) = ((9 : Nat) : Int) from rfl, q9]; exact decide_eq_true e4
              have E1 : Hid ([92, 116] = esc s[k]) := by show _ = _; unfold esc; rw [if_neg e1, if_neg e2, if_neg e3, if_pos e4]
              clear e1 e2 e3 e4 q34 q92 q10 q9
              go_wp2_with fail
              refine (wstr_any B b _ ⟨#[92, 116]⟩ _ (unhide hb) (show _ + 2 ≤ _ from unhide hln) (unhide hszr)).mono ?_
              rintro e w2 ⟨rfl, h2, k2⟩
              have hF := unhide FIN _ _ (unhide E1) h2 k2
              clear h2 k2
              go_wp2_with fail
              go_roundw
              case rel => exact ⟨k + 1, by omega, by go_num, hF.1, hF.2⟩
              case measure => simp [intOf]; omega
            · have b9 : ((s[k].toNat : Int) == 9) = false := by rw [show (9 : Int) = ((9 : Nat) : Int) from rfl, q9]; exact decide_eq_false e4
              have E1 : Hid ([s[k]] = esc s[k]) := by show _ = _; unfold esc; rw [if_neg e1, if_neg e2, if_neg e3, if_neg e4]
              clear e1 e2 e3 e4 q34 q92 q10 q9
              go_wp2_with fail
              refine (wbyte_any B b _ s[k] _ rfl _ (unhide hb) (by have := unhide hln; omega) (unhide hszr)).mono ?_
              rintro e w2 ⟨rfl, h2, k2⟩
              have hF := unhide FIN _ _ (unhide E1) h2 k2
              clear h2 k2
              go_wp2_with fail
              go_roundw
              case rel => exact ⟨k + 1, by omega, by go_num, hF.1, hF.2⟩
              case measure => simp [intOf]; omega
    · have : k = s.size := by omega
      subst this
      go_wp2_with fail
      refine (wbyte_any B b _ 34 34 rfl _ (unhide hb) (by have := unhide hln; omega) (unhide hszr)).mono ?_
      rintro e w2 ⟨rfl, h2, k2⟩
      have hF : Kept B b w w2 := (unhide hkp).trans k2
      rw [unhide HQ] at h2
      have H2 := hide h2
      clear h2 k2 hkp
      go_wp2_with fail
      go_end0
      exact ⟨rfl, unhide H2, hF⟩

/-- The library's table of powers stands where the program laid it, below B. -/
def Tbl (B : Nat) (w : World) : Prop := Lib.TabIs Tryd.prog w "internal/strconv.uint64pow10" .u64 Lib.pow10Tab ∧ ∀ g, Tryd.prog.globalNamed "internal/strconv.uint64pow10" = some g → g < B
theorem var_at {name : String} {g B : Nat} {w w' : World} {cs : Array Value} (hg : Tryd.prog.globalNamed name = some g) (hB : g < B) (h : w.var? Tryd.prog name = some cs) (b : Below B w w') : w'.var? Tryd.prog name = some cs := by
  unfold World.var? at *
  rw [hg] at *
  simp only [Option.bind_some] at *
  rw [b.block g hB]; exact h
theorem Tbl.below {B : Nat} {w w' : World} (h : Tbl B w) (b : Below B w w') : Tbl B w' := by
  obtain ⟨g, hg⟩ : ∃ g, Tryd.prog.globalNamed "internal/strconv.uint64pow10" = some g := by
    have := h.1
    unfold Lib.TabIs World.var? at this
    cases e : Tryd.prog.globalNamed "internal/strconv.uint64pow10" with
    | none => rw [e] at this; cases this
    | some g => exact ⟨g, rfl⟩
  exact ⟨var_at hg (h.2 g hg) h.1 b, h.2⟩
theorem Tbl.more {B B' : Nat} {w : World} (h : Tbl B w) (hB : B ≤ B') : Tbl B' w := ⟨h.1, fun g hg => Nat.lt_of_lt_of_le (h.2 g hg) hB⟩

theorem numText_any (n : Int) (h0 : -9223372036854775808 ≤ n) (h1 : n ≤ 9223372036854775807) (B : Nat) (w : World) (ht : Tbl B w) :
    Calls Tryd.prog 39 #[.int .i64 n] w fun e w' => e = .returned (.string ⟨(Lib.itoa n).toArray⟩) ∧ Below w.heap.size w w' := by
  have htab := ht.1
  go_enter Tryd.func39, Tryd.ntmps39
  go_wp2_with (go_at_call 57; refine (Tryd.strconv_Itoa n h0 h1 _ htab).mono ?_; rintro e w' ⟨rfl, k, os, rfl⟩)
  go_ret
  exact ⟨rfl, Lib.below_grow _ _ (Nat.le_refl _) _ _⟩

/-- A builder stays where nothing that was there turns. -/
theorem Bld.later {B b : Nat} {l : List UInt8} {w w' : World} (h : Bld B b l w) (hb : Below w.heap.size w w') : Bld B b l w' := by
  have key : ∀ p, Lib.BuilderAtF 72 5 B b p (Lib.byteCells l) w → Lib.BuilderAtF 72 5 B b p (Lib.byteCells l) w' := fun p h => by
    obtain ⟨hB, v, hbk, hown, hne⟩ := h
    refine ⟨hB, v, (hb.block b (Array.getElem?_eq_some_iff.1 hbk).1).trans hbk, ⟨hown.1, ?_⟩, hne⟩
    rcases hown.2 with e | ⟨g, cap, cur, fz, hv, hg1, hg2, r⟩
    · exact .inl e
    · exact .inr ⟨g, cap, cur, fz, hv, hg1, (hb.block g (Array.getElem?_eq_some_iff.1 hg2).1).trans hg2, r⟩
  exact h.elim (fun x => .inl (key _ x)) (fun x => .inr (key _ x))
theorem Kept.later {B b : Nat} {u w w' : World} (h : Kept B b u w) (hb : Below w.heap.size w w') (hB : B ≤ w.heap.size) : Kept B b u w' :=
  ⟨h.below.trans (hb.mono hB), fun k o hk hkb ho => (hb.block k (Array.getElem?_eq_some_iff.1 (h.others k o hk hkb ho)).1).trans (h.others k o hk hkb ho)⟩
theorem Bld.lt {B b : Nat} {l : List UInt8} {w : World} (h : Bld B b l w) : B ≤ b ∧ b < w.heap.size := h.elim (fun x => ⟨x.1, x.lt⟩) (fun x => ⟨x.1, x.lt⟩)

def WriteC (v : V) : Prop := ∀ (B b : Nat) (l : List UInt8) (w : World) (d : Nat), v.At B w → Bld B b l w → B ≤ w.heap.size → Tbl B w → v.may d = true → l.length + 131100 * v.size ≤ 1000000000000 →
  Calls Tryd.prog 27 #[.pointer (some ⟨b, 0, none⟩), v.val] w fun e w' => e = .returned (.tuple #[]) ∧ Bld B b (l ++ v.text) w' ∧ Kept B b w w'
end Go.Proofs.YtbfkcfhkccicoaaDoor
