/- Walk of the law on gaps. -/
import Derived.Test.YtbekkpfbjafagaaDoorHeadsw
import Derived.Deep.Cut
import Derived.Deep.CutRange
import Derived.Deep.RegionWith
namespace Go.Proofs.YtbekkpfbjafagaaDoor
open Go.RowKit

abbrev fiveG : Obj := .cells #[.string ⟨#[32]⟩, .string ⟨#[10]⟩, .string ⟨#[32, 47, 42, 32, 120, 32, 42, 47, 32]⟩, .string ⟨#[32, 47, 47, 32, 121, 10]⟩, .string ⟨#[9, 13]⟩] 9
theorem gap_at (w : World) (c : Int) : ∃ gg : ByteArray, gg.data.toList ∈ gps ∧ gg.size ≤ 16 ∧ ((w.alloc fltZ).alloc fiveG).cell? ⟨w.heap.size + 1, (c % 5).toNat, none⟩ = some (.string gg) := by
  have hb : ((w.alloc fltZ).alloc fiveG).heap[w.heap.size + 1]? = some fiveG := by
    have := heap_alloc_new (w.alloc fltZ) fiveG
    rwa [show (w.alloc fltZ).heap.size = w.heap.size + 1 by simp] at this
  rcases (by omega : (c % 5).toNat = 0 ∨ (c % 5).toNat = 1 ∨ (c % 5).toNat = 2 ∨ (c % 5).toNat = 3 ∨ (c % 5).toNat = 4) with h | h | h | h | h <;> rw [h]
  · exact ⟨⟨#[32]⟩, by decide, by decide, by rw [Lib.cell_of_heap hb]; rfl⟩
  · exact ⟨⟨#[10]⟩, by decide, by decide, by rw [Lib.cell_of_heap hb]; rfl⟩
  · exact ⟨⟨#[32, 47, 42, 32, 120, 32, 42, 47, 32]⟩, by decide, by decide, by rw [Lib.cell_of_heap hb]; rfl⟩
  · exact ⟨⟨#[32, 47, 47, 32, 121, 10]⟩, by decide, by decide, by rw [Lib.cell_of_heap hb]; rfl⟩
  · exact ⟨⟨#[9, 13]⟩, by decide, by decide, by rw [Lib.cell_of_heap hb]; rfl⟩

theorem cat_data (a b : ByteArray) : (a ++ b).data.toList = a.data.toList ++ b.data.toList := by simp [ByteArray.data_append]
theorem alike_shift (toks : List Tok) (k d : Nat) : ∀ (i : Nat) (x y : Tok), toks[i]? = some x → (toks.take k ++ (toks.drop k).map fun t => { t with at_ := t.at_ + d })[i]? = some y → Alike false x y := fun i x y h1 h2 => by
  by_cases hi : i < (toks.take k).length
  · rw [List.getElem?_append_left hi, List.getElem?_take] at h2
    split at h2
    · rw [h1] at h2; injection h2 with h2; subst h2; exact ⟨rfl, rfl, rfl, fun h => by cases h⟩
    · cases h2
  · rw [List.getElem?_append_right (by omega), List.getElem?_map, List.getElem?_drop] at h2
    have hl : i < toks.length := (List.getElem?_eq_some_iff.1 h1).1
    rw [List.length_take] at hi h2
    rw [show k + (i - min k toks.length) = i by omega, h1] at h2
    injection h2 with h2
    subst h2
    exact ⟨rfl, rfl, rfl, fun h => by cases h⟩
/-- Behind the region: the fault's box, the tokens, whatever came first. -/
structure Gp (w X wc : World) (b v : Value) (toks : List Tok) : Prop where
  box : ∃ fb, b = .pointer (some ⟨fb, 0, none⟩) ∧ wc.cell? ⟨fb, 0, none⟩ = some (.int .i64 0) ∧ wc.cell? ⟨fb, 1, none⟩ = some (.int .i64 0)
  sl : SlAt wc v toks
  bel : Below X.heap.size X wc
theorem gp_after {w X w2 : World} {v : Value} {toks : List Tok} (h : w2.ownsRow X.drew.heap.size 32 4 v toks.length (tokCells toks)) (b2 : Below X.drew.heap.size X.drew w2) :
    Gp w X (w2.alloc fltZ) (.pointer (some ⟨w2.heap.size, 0, none⟩)) v toks := by
  have hb := heap_alloc_new w2 fltZ
  refine ⟨⟨_, rfl, by rw [Lib.cell_of_heap hb]; rfl, by rw [Lib.cell_of_heap hb]; rfl⟩, (slAt_of h).later ((Below.refl w2.heap.size w2).alloc (Nat.le_refl _) _), ?_⟩
  have e : Below X.heap.size X w2 := (Below.refl X.heap.size X).drew.trans b2
  exact e.alloc e.size _
theorem gp_before {w X w2 : World} {v : Value} {toks : List Tok} (h : w2.ownsRow (X.alloc fltZ).drew.heap.size 32 4 v toks.length (tokCells toks)) (b2 : Below (X.alloc fltZ).drew.heap.size (X.alloc fltZ).drew w2) :
    Gp w X ((w2.setCell ⟨X.heap.size, 0, none⟩ (.int .i64 0)).setCell ⟨X.heap.size, 1, none⟩ (.int .i64 0)) (.pointer (some ⟨X.heap.size, 0, none⟩)) v toks := by
  have b2' : Below (X.heap.size + 1) (X.alloc fltZ) w2 := by
    have : (X.alloc fltZ).drew.heap.size = X.heap.size + 1 := by simp
    rw [this] at b2
    exact (Below.refl _ (X.alloc fltZ)).drew.trans b2
  have hb : w2.heap[X.heap.size]? = some fltZ := by rw [b2'.block _ (by omega)]; exact heap_alloc_new X _
  have h9 := two_flt w2 X.heap.size (.int .i64 0) (.int .i64 0) _ _ hb
  have hsame : ((w2.setCell ⟨X.heap.size, 0, none⟩ (.int .i64 0)).setCell ⟨X.heap.size, 1, none⟩ (.int .i64 0)).ownsRow (X.alloc fltZ).drew.heap.size 32 4 v toks.length (tokCells toks) := by
    refine own_keep h fun g cur hg => ?_
    have hne : g ≠ X.heap.size := by
      rintro rfl
      rw [hb] at hg
      injection hg with hg
      injection hg with _ hg _
      exact absurd hg (by decide)
    rw [heap_setCell_other _ _ _ _ hne, heap_setCell_other _ _ _ _ hne]
  refine ⟨⟨_, rfl, by rw [Lib.cell_of_heap h9]; rfl, by rw [Lib.cell_of_heap h9]; rfl⟩, slAt_of hsame, ?_⟩
  have e : Below X.heap.size X w2 := ((Below.refl X.heap.size X).alloc (Nat.le_refl _) _).trans (b2'.mono (by omega))
  exact (e.setCell (p := ⟨X.heap.size, 0, none⟩) (Nat.le_refl _) _).setCell (p := ⟨X.heap.size, 1, none⟩) (Nat.le_refl _) _
theorem box_flt {X w2 : World} (b2 : Below (X.alloc fltZ).drew.heap.size (X.alloc fltZ).drew w2) : w2.cell? ⟨X.heap.size, 0, none⟩ = some (.int .i64 0) ∧ w2.cell? ⟨X.heap.size, 1, none⟩ = some (.int .i64 0) ∧ ∀ o, w2.frozen? ⟨X.heap.size, o, none⟩ = false := by
  have b2' : Below (X.heap.size + 1) (X.alloc fltZ) w2 := by
    have : (X.alloc fltZ).drew.heap.size = X.heap.size + 1 := by simp
    rw [this] at b2
    exact (Below.refl _ (X.alloc fltZ)).drew.trans b2
  have hb : w2.heap[X.heap.size]? = some fltZ := by rw [b2'.block _ (by omega)]; exact heap_alloc_new X _
  exact ⟨by rw [Lib.cell_of_heap hb]; rfl, by rw [Lib.cell_of_heap hb]; rfl, fun o => Lib.frozen_of_heap hb o⟩

set_option maxRecDepth 100000 in
set_option maxHeartbeats 4000000 in
theorem gaps_walk (s : ByteArray) (a c : Int) (hs : s.size ≤ 140737488355328) (ha : -9223372036854775808 ≤ a ∧ a ≤ 9223372036854775807) (hc : 0 ≤ c ∧ c ≤ 255) (w : World) (hE : Env w) : Calls Tryd.prog 6 #[.string s, .int .i64 a, .int .u8 c] w fun e w' => e = .returned (.bool true) ∧ Below w.heap.size w w' := by
  have HT := hide (tokens_all s hs w hE)
  have HE := hide hE
  obtain ⟨a1, a2⟩ := ha
  obtain ⟨k1, k2⟩ := hc
  clear hE
  go_enter Tryd.func6, Tryd.ntmps6
  go_wp2_with fail
  refine (unhide HT).mono ?_
  rintro e w1 ⟨v, rfl, hown, b1⟩
  clear HT
  have hE1 := (unhide HE).later b1
  have HE1 := hide (hE1.later ((Below.refl w1.heap.size w1).alloc (Nat.le_refl _) (.cells #[.int .i64 (lexP s.data.toList).why, .int .i64 (lexP s.data.toList).fa] 25)))
  have HB1 := hide (b1.alloc b1.size (.cells #[.int .i64 (lexP s.data.toList).why, .int .i64 (lexP s.data.toList).fa] 25))
  have HRS := hide (lex_ris s.data.toList)
  cases ho : lexP s.data.toList with
  | bad why fa =>
    rw [ho] at HRS hown HE1 HB1
    have hwz : (why == 0) = false := beq_eq_false_iff_ne.2 (unhide HRS).1
    clear hown b1 hE1 HRS
    simp only [Out.why, Out.fa] at HE1 HB1 ⊢
    go_wp2_with fail
    refine (alive_any _ (unhide HE1)).mono ?_
    rintro e w2 ⟨rfl, hb⟩
    go_wp2_with fail
    go_ret
    exact ⟨rfl, (unhide HB1).trans (hb.mono (unhide HB1).size)⟩
  | ok toks =>
    rw [ho] at HRS hown HE1 HB1
    simp only [Out.why, Out.fa, Out.toks] at HE1 HB1 hown ⊢
    by_cases h0 : toks = []
    · subst h0
      obtain ⟨ao, cap, rfl⟩ := slice_of hown
      clear hown b1 hE1 HRS
      go_wp2_with fail
      refine (alive_any _ (unhide HE1)).mono ?_
      rintro e w2 ⟨rfl, hb⟩
      go_wp2_with fail
      go_ret
      exact ⟨rfl, (unhide HB1).trans (hb.mono (unhide HB1).size)⟩
    · obtain ⟨g, cap, rfl, hrow⟩ : ∃ g cap, v = .slice (some ⟨g, 0, none⟩) toks.length cap ∧ RowAt w1 g cap toks := by
        rcases row_of hown with h | h
        · exact absurd h.2 h0
        · exact h
      obtain ⟨n, hn⟩ : ∃ n, toks.length = n := ⟨_, rfl⟩
      have hn0 : 0 < n := by rw [← hn]; exact List.length_pos_iff.2 h0
      obtain ⟨b, i, hb, b2, b3, hi, hin⟩ := idx_of a hn0
      obtain ⟨t, ht⟩ : ∃ t, toks[i]? = some t := ⟨toks[i]'(by omega), List.getElem?_eq_getElem _⟩
      obtain ⟨hat, _⟩ := heads_pure ho ht
      have hnl := ris_len (Nat.zero_le _) (unhide HRS)
      rw [hn, Nat.zero_add, ← size_len] at hnl
      rw [← size_len] at hat
      have hcl := hrow.le
      rw [hn] at hcl
      have hcm := hrow.cm
      unfold maxLen at hcm
      have h0' : ((n : Int) == 0) = false := by rw [beq_eq_false_iff_ne]; omega
      have c3 : ∀ o o2, ((w1.alloc o).alloc o2).cell? ⟨g, i * 4 + 3, none⟩ = some (.int .i64 (t.at_ : Int)) := fun o o2 => (World.cell?_alloc_lt (w1.alloc o) o2 _ (by show g < (w1.alloc o).heap.size; have := hrow.lt; simp; omega)).trans ((World.cell?_alloc_lt w1 o _ hrow.lt).trans (hrow.cells i t ht).2.2.2)
      by_cases hbig : 65536 < s.size + 16
      · have HN := hide hn
        have hbi : decide ((65536 : Int) < (s.size : Int) + 16) = true := decide_eq_true (by omega)
        rw [hn]
        clear hown b1 hE1 hrow ht hn ho HRS h0 hbig c3 hat
        go_wp2_with fail
        refine (alive_any _ (unhide HE1)).mono ?_
        rintro e w2 ⟨rfl, hb⟩
        go_wp2_with fail
        go_ret
        exact ⟨rfl, (unhide HB1).trans (hb.mono (unhide HB1).size)⟩
      · have HN := hide hn
        have hbi : decide ((65536 : Int) < (s.size : Int) + 16) = false := decide_eq_false (by omega)
        have HBG := hide hbig
        obtain ⟨gg, hgm, hgs, hgp⟩ := gap_at w1 c
        have HGP := hide (gaps_pure ho ht hgm (by rw [← size_len]; omega))
        have hrun1 := run_head s t.at_ (by omega)
        have hrun2 := run_tail s t.at_ (t.at_ : Int) rfl (by omega)
        obtain ⟨u, hu⟩ : ∃ u, s.extract 0 t.at_ = u := ⟨_, rfl⟩
        obtain ⟨u2, hu2⟩ : ∃ u2, s.extract t.at_ s.size = u2 := ⟨_, rfl⟩
        have hul : u.data.toList = s.data.toList.take t.at_ := by rw [← hu]; exact ext_head s t.at_
        have hul2 : u2.data.toList = s.data.toList.drop t.at_ := by rw [← hu2]; exact ext_drop s t.at_
        rw [hu] at hrun1
        rw [hu2] at hrun2
        rw [← hul, ← hul2] at HGP
        have hz1 : u.size ≤ 65536 := by rw [size_len, hul, List.length_take, ← size_len]; omega
        have hz2 : u2.size ≤ 65536 := by rw [size_len, hul2, List.length_drop, ← size_len]; omega
        have hcat1 : ∀ w : World, (Op.stringOp .add u gg).run Tryd.prog w = .ok (.string (u ++ gg)) w := fun w => run_string_add_sum w u gg (by omega)
        have hcat2 : ∀ w : World, (Op.stringOp .add (u ++ gg) u2).run Tryd.prog w = .ok (.string ((u ++ gg) ++ u2)) w := fun w => run_string_add_sum w _ u2 (by rw [ByteArray.size_append]; omega)
        obtain ⟨v1, hv1⟩ : ∃ v1, u ++ gg = v1 := ⟨_, rfl⟩
        obtain ⟨U, hU⟩ : ∃ U, v1 ++ u2 = U := ⟨_, rfl⟩
        have hUl : U.data.toList = u.data.toList ++ (gg.data.toList ++ u2.data.toList) := by rw [← hU, ← hv1, cat_data, cat_data, List.append_assoc]
        have hUs : U.size ≤ 140737488355328 := by rw [← hU, ← hv1, ByteArray.size_append, ByteArray.size_append]; omega
        rw [hv1] at hcat1 hcat2
        rw [hU] at hcat2
        rw [← hUl] at HGP
        have hrX := (hrow.later ((Below.refl w1.heap.size w1).alloc (Nat.le_refl _) fltZ)).later ((Below.refl (w1.alloc fltZ).heap.size (w1.alloc fltZ)).alloc (Nat.le_refl _) fiveG)
        have HBX := hide ((unhide HB1).alloc (unhide HB1).size fiveG)
        obtain ⟨X, hX⟩ : ∃ X, (w1.alloc fltZ).alloc fiveG = X := ⟨_, rfl⟩
        have HX := hide hX
        rw [hX] at hrX HBX
        have HCALL := hide (show ∀ W, Below X.heap.size X W → Calls Tryd.prog 9 #[.string U] W fun e w' => TokAns (lexP U.data.toList) W w' e from
          fun W hW => tokens_all U hUs W ((unhide HE).later ((unhide HBX).trans (hW.mono (unhide HBX).size))))
        rw [unhide HGP] at HCALL
        have hneg : decide ((t.at_ : Int) < 0) = false := decide_eq_false (by omega)
        have hgt : decide (s.size < t.at_) = false := decide_eq_false (by omega)
        have cX := (hrX.cells i t ht).2.2.2
        have cX2 : ∀ o, (X.alloc o).cell? ⟨g, i * 4 + 3, none⟩ = some (.int .i64 (t.at_ : Int)) := fun o => (World.cell?_alloc_lt X o _ hrX.lt).trans cX
        have HRX := hide hrX
        rw [hn]
        clear hown b1 hE1 hrow ht hn ho HRS h0 hbig hu hu2 hul hul2 hgm hX hrX hUl hv1 hU
        go_wp2_with fail
        rw [show (w1.alloc (.cells #[.int .i64 0, .int .i64 0] 25)).alloc (.cells #[.string ⟨#[32]⟩, .string ⟨#[10]⟩, .string ⟨#[32, 47, 42, 32, 120, 32, 42, 47, 32]⟩, .string ⟨#[32, 47, 47, 32, 121, 10]⟩, .string ⟨#[9, 13]⟩] 9) = X from unhide HX]
        clear c3 hgp
        go_cut [10, 11] from 63 to 83 (fun v b wc => Gp w X wc b v (toks.take i ++ (toks.drop i).map fun t => { t with at_ := t.at_ + gg.data.toList.length }))
        case first =>
          go_region_with (go_at_call 9; refine (unhide HCALL _ (by first | exact (Below.refl X.heap.size X).drew | exact ((Below.refl X.heap.size X).alloc (Nat.le_refl _) _).drew)).mono ?_; rintro e w2 ⟨v2, rfl, hown2, b2⟩; simp only [Out.why, Out.fa, Out.toks] at hown2 ⊢; first | (have hbf := box_flt b2; obtain ⟨y0, y1, fy⟩ := hbf) | skip)
          all_goals go_wp2_with fail
          all_goals go_meet
          all_goals first
            | exact gp_after hown2 b2
            | exact gp_before hown2 b2
        case rest =>
          obtain ⟨⟨fb, rfl, z0, z1⟩, hsl, hbl⟩ := hcut
          have hlen : ((toks.take i ++ (toks.drop i).map fun t => { t with at_ := t.at_ + gg.data.toList.length }) : List Tok).length = toks.length := by
            rw [List.length_append, List.length_map, ← List.length_append, List.take_append_drop]
          have hs2 : SlAt wc (.slice (some ⟨g, 0, none⟩) n cap) toks := ⟨_, cap, by rw [unhide HN], by rw [unhide HN]; exact hcl, by unfold maxLen; omega, .inr ⟨g, rfl, (unhide HRX).later hbl⟩⟩
          have HS1 := hide hsl
          have HS2 := hide hs2
          have HLN := hide hlen
          have HBC := hide ((unhide HBX).trans (hbl.mono (unhide HBX).size))
          clear hsl hs2 hbl hlen
          go_wp2_with fail
          refine (same_any false _ _ _ _ _ (unhide HS2) (unhide HS1) (unhide HLN).symm (alike_shift _ _ _)).mono ?_
          rintro e w3 ⟨rfl, b5⟩
          have b6 := (unhide HBC).trans (b5.mono (unhide HBC).size)
          have hE3 := (unhide HE).later b6
          go_wp2_with fail
          refine (alive_any _ hE3).mono ?_
          rintro e w4 ⟨rfl, b7⟩
          go_wp2_with fail
          go_ret
          exact ⟨rfl, b6.trans (b7.mono b6.size)⟩
end Go.Proofs.YtbekkpfbjafagaaDoor
