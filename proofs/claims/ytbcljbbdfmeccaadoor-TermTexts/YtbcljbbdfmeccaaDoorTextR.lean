/- Walks of the document's text of a value: Quoted. -/
import Derived.Test.YtbcljbbdfmeccaaDoorRaw
import Derived.Test.YtbcljbbdfmeccaaDoorNumRef
namespace Go.Proofs.YtbcljbbdfmeccaaDoor
open Go.RowKit Go.ChangeShapes Go.WideShapes

/-- Between two rounds. -/
def QRel (w : World) (s : ByteArray) (v i : Value) (wr : World) : Prop :=
  ∃ k : Nat, k ≤ s.size ∧ i = .int .i64 k ∧ Hid (wr.ownsRow w.heap.size 5 1 v ([34] ++ escTo s k).length (byteVals ([34] ++ escTo s k))) ∧ Hid (Below w.heap.size w wr)

theorem byteVals_app (l m : List UInt8) : byteVals (l ++ m) = byteVals l ++ byteVals m := by simp [byteVals]
theorem news_two (wr : World) (x y : Value) : ∀ j u, [x, y][j]? = some u → (wr.alloc (.cells #[x, y] 5)).cell? ((⟨wr.heap.size, 0, none⟩ : Addr).add j) = some u := fun j u hj => by
  have h := World.alloc_heap_new wr (.cells #[x, y] 5)
  match j, hj with
  | 0, hj => simp at hj; subst hj; simp only [Addr.add, if_true, World.cell?]; rw [h]; rfl
  | 1, hj =>
    simp at hj; subst hj
    have e : (⟨wr.heap.size, 0, none⟩ : Addr).add 1 = ⟨wr.heap.size, 1, none⟩ := rfl
    rw [e]; simp only [World.cell?]; rw [h]; rfl
theorem news_one (wr : World) (x : Value) : ∀ j u, [x][j]? = some u → (wr.alloc (.cells #[x] 5)).cell? ((⟨wr.heap.size, 0, none⟩ : Addr).add j) = some u := fun j u hj => by
  have h := World.alloc_heap_new wr (.cells #[x] 5)
  match j, hj with
  | 0, hj => simp at hj; subst hj; simp only [Addr.add, if_true, World.cell?]; rw [h]; rfl

/-- What an append of bytes leaves. -/
theorem qrel_step {w wr w3 : World} {s : ByteArray} {k : Nat} {v v' : Value} {x : List UInt8} {o : Obj} (hk : k < s.size) (hx : x = esc s[k]) (hown : wr.ownsRow w.heap.size 5 1 v ([34] ++ escTo s k).length (byteVals ([34] ++ escTo s k))) (hb : Below w.heap.size w wr)
    (hown' : w3.ownsRow w.heap.size 5 1 v' (([34] ++ escTo s k).length + x.length) (byteVals ([34] ++ escTo s k) ++ byteVals x)) (hg : (wr.alloc o).grownBy w3 v.ownBlock) : QRel w s v' (.int .i64 ((k : Int) + 1)) w3 := by
  refine ⟨k + 1, hk, by simp, ?_, ?_⟩
  · show World.ownsRow _ _ _ _ _ _ _
    rw [escTo_step hk, ← hx, ← List.append_assoc, byteVals_app, List.length_append]
    exact hown'
  · exact (hb.alloc hb.size _).grown hg (by simp; have := hb.size; omega) (fun j hj => (hown.lt j hj).1)

set_option maxRecDepth 100000 in
set_option maxHeartbeats 8000000 in
theorem quoted_any (s : ByteArray) (w : World) (hs : s.size ≤ 65536) :
    Calls Tryd.prog 58 #[.string s] w fun e w' => e = .returned (.string ⟨(quoted s).toArray⟩) ∧ Below w.heap.size w w' := by
  obtain ⟨i0, hi, hz0, hz1, hz2⟩ := info_parts info5
  have HI : Hid (Tryd.prog.info? 5 = some i0 ∧ i0.zero = some (.int .u8 0) ∧ i0.size = 1 ∧ i0.bytes = 1) := ⟨hi, hz0, hz1, hz2⟩
  clear hi hz0 hz1 hz2
  have HQ : Hid ([34] ++ escTo s s.size ++ [34] = quoted s) := by
    show _ = _
    unfold escTo quoted
    rw [take_all]
  go_enter Tryd.func58, Tryd.ntmps58
  go_wp2_with fail
  go_loopw [3, 4] (QRel w s) (fun _ i _ => s.size - (intOf i).toNat)
  case atStart =>
    refine ⟨0, Nat.zero_le _, rfl, ?_, below_box w _⟩
    exact own_new _ (Nat.le_refl _)
  case round =>
    obtain ⟨k, hk, rfl, hown0, hb0⟩ := hrel
    have hszr : Hid (w.heap.size ≤ wr.heap.size) := (unhide hb0).size
    have hln : Hid (([34] ++ escTo s k).length + 2 ≤ 140737488355328) := by
      have := escTo_len s k
      show _ ≤ _
      simp only [List.length_append, List.length_cons, List.length_nil]; omega
    by_cases hlt : k < s.size
    · have q34 := byte_eq (c := s[k]) (n := 34) (by omega)
      have q92 := byte_eq (c := s[k]) (n := 92) (by omega)
      have q10 := byte_eq (c := s[k]) (n := 10) (by omega)
      have q9 := byte_eq (c := s[k]) (n := 9) (by omega)
      by_cases e1 : s[k] = 34
      · have b1 : ((s[k].toNat : Int) == 34) = true := by rw [show (34 : Int) = ((34 : Nat) : Int) from rfl, q34]; exact decide_eq_true e1
        have E1 : Hid ([92, s[k]] = esc s[k]) := by show _ = _; unfold esc; rw [if_pos e1, e1]
        clear e1 q34 q92 q10 q9
        go_wp2_with (at_builtin; refine wpList_append_own _ rfl _ _ 57 rfl w.heap.size 5 i0 (.int .u8 0) 1 1 Tryd.underlying57 (unhide HI).1 (unhide HI).2.1 (unhide HI).2.2.1 (unhide HI).2.2.2 rfl (by decide) _ _ _ rfl ((unhide hown0).alloc _) ⟨wr.heap.size, 0, none⟩ 2 2 (byteVals [92, s[k]]) rfl (bytes_len _) (news_two wr _ _) (bytes_one _) (by have := unhide hln; unfold maxLen; omega) (by have := unhide hln; omega) (by have := unhide hszr; simp; omega) ?_; intro v' w3 hown' hgrow hnil3)
        have hF := hide (qrel_step hlt (unhide E1) (unhide hown0) (unhide hb0) hown' hgrow)
        clear hown' hgrow hnil3
        go_wp2_with fail
        go_roundw
        case rel => exact unhide hF
        case measure => simp [intOf]; omega
      · have b34 : ((s[k].toNat : Int) == 34) = false := by rw [show (34 : Int) = ((34 : Nat) : Int) from rfl, q34]; exact decide_eq_false e1
        by_cases e2 : s[k] = 92
        · have b92 : ((s[k].toNat : Int) == 92) = true := by rw [show (92 : Int) = ((92 : Nat) : Int) from rfl, q92]; exact decide_eq_true e2
          have E1 : Hid ([92, s[k]] = esc s[k]) := by show _ = _; unfold esc; rw [if_neg e1, if_pos e2, e2]
          clear e1 e2 q34 q92 q10 q9
          go_wp2_with (at_builtin; refine wpList_append_own _ rfl _ _ 57 rfl w.heap.size 5 i0 (.int .u8 0) 1 1 Tryd.underlying57 (unhide HI).1 (unhide HI).2.1 (unhide HI).2.2.1 (unhide HI).2.2.2 rfl (by decide) _ _ _ rfl ((unhide hown0).alloc _) ⟨wr.heap.size, 0, none⟩ 2 2 (byteVals [92, s[k]]) rfl (bytes_len _) (news_two wr _ _) (bytes_one _) (by have := unhide hln; unfold maxLen; omega) (by have := unhide hln; omega) (by have := unhide hszr; simp; omega) ?_; intro v' w3 hown' hgrow hnil3)
          have hF := hide (qrel_step hlt (unhide E1) (unhide hown0) (unhide hb0) hown' hgrow)
          clear hown' hgrow hnil3
          go_wp2_with fail
          go_roundw
          case rel => exact unhide hF
          case measure => simp [intOf]; omega
        · have b92 : ((s[k].toNat : Int) == 92) = false := by rw [show (92 : Int) = ((92 : Nat) : Int) from rfl, q92]; exact decide_eq_false e2
          by_cases e3 : s[k] = 10
          · have b10 : ((s[k].toNat : Int) == 10) = true := by rw [show (10 : Int) = ((10 : Nat) : Int) from rfl, q10]; exact decide_eq_true e3
            have E1 : Hid ([92, 110] = esc s[k]) := by show _ = _; unfold esc; rw [if_neg e1, if_neg e2, if_pos e3]
            clear e1 e2 e3 q34 q92 q10 q9
            go_wp2_with (at_builtin; refine wpList_append_own _ rfl _ _ 57 rfl w.heap.size 5 i0 (.int .u8 0) 1 1 Tryd.underlying57 (unhide HI).1 (unhide HI).2.1 (unhide HI).2.2.1 (unhide HI).2.2.2 rfl (by decide) _ _ _ rfl ((unhide hown0).alloc _) ⟨wr.heap.size, 0, none⟩ 2 2 (byteVals [92, 110]) rfl (bytes_len _) (news_two wr _ _) (bytes_one _) (by have := unhide hln; unfold maxLen; omega) (by have := unhide hln; omega) (by have := unhide hszr; simp; omega) ?_; intro v' w3 hown' hgrow hnil3)
            have hF := hide (qrel_step hlt (unhide E1) (unhide hown0) (unhide hb0) hown' hgrow)
            clear hown' hgrow hnil3
            go_wp2_with fail
            go_roundw
            case rel => exact unhide hF
            case measure => simp [intOf]; omega
          · have b10 : ((s[k].toNat : Int) == 10) = false := by rw [show (10 : Int) = ((10 : Nat) : Int) from rfl, q10]; exact decide_eq_false e3
            by_cases e4 : s[k] = 9
            · have b9 : ((s[k].toNat : Int) == 9) = true := by rw [show (9 : Int) = ((9 : Nat) : Int) from rfl, q9]; exact decide_eq_true e4
              have E1 : Hid ([92, 116] = esc s[k]) := by show _ = _; unfold esc; rw [if_neg e1, if_neg e2, if_neg e3, if_pos e4]
              clear e1 e2 e3 e4 q34 q92 q10 q9
              go_wp2_with (at_builtin; refine wpList_append_own _ rfl _ _ 57 rfl w.heap.size 5 i0 (.int .u8 0) 1 1 Tryd.underlying57 (unhide HI).1 (unhide HI).2.1 (unhide HI).2.2.1 (unhide HI).2.2.2 rfl (by decide) _ _ _ rfl ((unhide hown0).alloc _) ⟨wr.heap.size, 0, none⟩ 2 2 (byteVals [92, 116]) rfl (bytes_len _) (news_two wr _ _) (bytes_one _) (by have := unhide hln; unfold maxLen; omega) (by have := unhide hln; omega) (by have := unhide hszr; simp; omega) ?_; intro v' w3 hown' hgrow hnil3)
              have hF := hide (qrel_step hlt (unhide E1) (unhide hown0) (unhide hb0) hown' hgrow)
              clear hown' hgrow hnil3
              go_wp2_with fail
              go_roundw
              case rel => exact unhide hF
              case measure => simp [intOf]; omega
            · have b9 : ((s[k].toNat : Int) == 9) = false := by rw [show (9 : Int) = ((9 : Nat) : Int) from rfl, q9]; exact decide_eq_false e4
              have E1 : Hid ([s[k]] = esc s[k]) := by show _ = _; unfold esc; rw [if_neg e1, if_neg e2, if_neg e3, if_neg e4]
              clear e1 e2 e3 e4 q34 q92 q10 q9
              go_wp2_with (at_builtin; refine wpList_append_own _ rfl _ _ 57 rfl w.heap.size 5 i0 (.int .u8 0) 1 1 Tryd.underlying57 (unhide HI).1 (unhide HI).2.1 (unhide HI).2.2.1 (unhide HI).2.2.2 rfl (by decide) _ _ _ rfl ((unhide hown0).alloc _) ⟨wr.heap.size, 0, none⟩ 1 1 (byteVals [s[k]]) rfl (bytes_len _) (news_one wr _) (bytes_one _) (by have := unhide hln; unfold maxLen; omega) (by have := unhide hln; omega) (by have := unhide hszr; simp; omega) ?_; intro v' w3 hown' hgrow hnil3)
              have hF := hide (qrel_step hlt (unhide E1) (unhide hown0) (unhide hb0) hown' hgrow)
              clear hown' hgrow hnil3
              go_wp2_with fail
              go_roundw
              case rel => exact unhide hF
              case measure => simp [intOf]; omega
    · have hke : k = s.size := by omega
      subst hke
      go_wp2_with (at_builtin; refine wpList_append_own _ rfl _ _ 57 rfl w.heap.size 5 i0 (.int .u8 0) 1 1 Tryd.underlying57 (unhide HI).1 (unhide HI).2.1 (unhide HI).2.2.1 (unhide HI).2.2.2 rfl (by decide) _ _ _ rfl ((unhide hown0).alloc _) ⟨wr.heap.size, 0, none⟩ 1 1 (byteVals [34]) rfl (bytes_len _) (news_one wr _) (bytes_one _) (by have := unhide hln; unfold maxLen; omega) (by have := unhide hln; omega) (by have := unhide hszr; simp; omega) ?_; intro v' w3 hown' hgrow hnil3
                   have hb3 : Below w.heap.size w w3 := ((unhide hb0).alloc (unhide hb0).size _).grown hgrow (by simp; have := (unhide hb0).size; omega) (fun j hj => ((unhide hown0).lt j hj).1)
                   have hown4 : w3.ownsRow w.heap.size 5 1 v' (quoted s).length (byteVals (quoted s)) := by
                     rw [← unhide HQ, byteVals_app, List.length_append]
                     exact hown'
                   have hcv := conv_own hown4 (by simp [quoted])
                   clear hown' hgrow hnil3 hown4)
      go_ret
      exact ⟨rfl, hb3⟩
end Go.Proofs.YtbcljbbdfmeccaaDoor
