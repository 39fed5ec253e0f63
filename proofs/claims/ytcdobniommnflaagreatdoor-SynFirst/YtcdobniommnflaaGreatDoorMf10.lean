/- Walk of Tokens: its rounds. -/
import Derived.Test.YtcdobniommnflaaGreatDoorMf09
import Derived.Deep.WholeRow
namespace Go.Proofs.YtcdobniommnflaaGreatDoor
open Go.RowKit

def tkStore (p v : Value) : Sem Unit := Instr.storeAt 42 p v
theorem storeAt_tk (p v : Value) : Instr.storeAt 42 p v = tkStore p v := rfl
def flStore (p v : Value) : Sem Unit := Instr.storeAt 31 p v
theorem storeAt_fl (p v : Value) : Instr.storeAt 31 p v = flStore p v := rfl
def tkLoad (x : Value) : Sem Value := Instr.loadAt 42 x
theorem loadAt_tk (x : Value) : Instr.loadAt 42 x = tkLoad x := rfl
def flLoad (x : Value) : Sem Value := Instr.loadAt 31 x
theorem loadAt_fl (x : Value) : Instr.loadAt 31 x = flLoad x := rfl
theorem size_tk : (Tryz.prog.info? 42).map (·.size) = some 4 := by kernel_rfl
theorem size_fl : (Tryz.prog.info? 31).map (·.size) = some 2 := by kernel_rfl

theorem fl_new (w : World) (a b : Int) : (flStore (.pointer (some ⟨w.heap.size, 0, none⟩)) (.agg #[.int .i64 a, .int .i64 b])).run Tryz.prog (w.alloc (.cells #[.int .i64 0, .int .i64 0] 31)) = .ok () (w.alloc (.cells #[.int .i64 a, .int .i64 b] 31)) :=
  run_storeAt_new w 31 _ _ size_fl rfl (by simp [Value.oneCell'])
theorem fl_store {w : World} {b : Nat} {p0 p1 : Value} (h : w.heap[b]? = some (.cells #[p0, p1] 31)) (q0 q1 : Int) :
    (flStore (.pointer (some ⟨b, 0, none⟩)) (.agg #[.int .i64 q0, .int .i64 q1])).run Tryz.prog w = .ok () ((w.setCell ⟨b, 0, none⟩ (.int .i64 q0)).setCell ⟨b, 1, none⟩ (.int .i64 q1)) := by
  refine run_storeAt_mid w b 0 31 #[.int .i64 q0, .int .i64 q1] (fun j hj => ⟨?_, Lib.frozen_of_heap h _⟩) size_fl (by simp [Value.oneCell'])
  have hj : j < 2 := hj
  rw [Lib.cell_of_heap h]
  rcases (by omega : j = 0 ∨ j = 1) with rfl | rfl <;> rfl
theorem tk_store {w : World} {b : Nat} {p0 p1 p2 p3 : Value} (h : w.heap[b]? = some (.cells #[p0, p1, p2, p3] 42)) (k n a : Int) (t : ByteArray) :
    (tkStore (.pointer (some ⟨b, 0, none⟩)) (.agg #[.int .i64 k, .string t, .int .i64 n, .int .i64 a])).run Tryz.prog w =
      .ok () ((((w.setCell ⟨b, 0, none⟩ (.int .i64 k)).setCell ⟨b, 1, none⟩ (.string t)).setCell ⟨b, 2, none⟩ (.int .i64 n)).setCell ⟨b, 3, none⟩ (.int .i64 a)) := by
  refine run_storeAt_mid w b 0 42 #[.int .i64 k, .string t, .int .i64 n, .int .i64 a] (fun j hj => ⟨?_, Lib.frozen_of_heap h _⟩) size_tk (by simp [Value.oneCell'])
  have hj : j < 4 := hj
  rw [Lib.cell_of_heap h]
  rcases (by omega : j = 0 ∨ j = 1 ∨ j = 2 ∨ j = 3) with rfl | rfl | rfl | rfl <;> rfl
theorem fl_load {w : World} {b : Nat} {q0 q1 : Value} (h : w.heap[b]? = some (.cells #[q0, q1] 31)) :
    (flLoad (.pointer (some ⟨b, 0, none⟩))).run Tryz.prog w = .ok (.agg #[q0, q1]) w := by
  refine run_loadAt_mid w b 0 31 [q0, q1] _ (fun q v hq => ?_) Tryz.underlying31 rfl size_fl
  rw [Lib.cell_of_heap h, Nat.zero_add, ← hq]
  simp
theorem tk_load {w : World} {b : Nat} {q0 q1 q2 q3 : Value} (h : w.heap[b]? = some (.cells #[q0, q1, q2, q3] 42)) :
    (tkLoad (.pointer (some ⟨b, 0, none⟩))).run Tryz.prog w = .ok (.agg #[q0, q1, q2, q3]) w := by
  refine run_loadAt_mid w b 0 42 [q0, q1, q2, q3] _ (fun q v hq => ?_) Tryz.underlying42 rfl size_tk
  rw [Lib.cell_of_heap h, Nat.zero_add, ← hq]
  simp
theorem six_tok (w : World) (b c : Nat) (q0 q1 q2 q3 q4 q5 p0 p1 p2 p3 : Value) (hne : b ≠ c) (h : w.heap[b]? = some (.cells #[p0, p1, p2, p3] 42)) : (six w b c q0 q1 q2 q3 q4 q5).heap[b]? = some (.cells #[q0, q1, q2, q3] 42) := by
  rw [heap_setCell_other _ _ _ _ hne, heap_setCell_other _ _ _ _ hne]
  exact heap_setCell_same _ b 3 _ _ q3 (heap_setCell_same _ b 2 _ _ q2 (heap_setCell_same _ b 1 _ _ q1 (heap_setCell_same _ b 0 _ _ q0 h)))

/-- Behind a token's call: both boxes written, in world w4. -/
structure Wrote (w wr w2 w4 : World) (fb : Nat) (T : TV) : Prop where
  eq : w4 = six w2 wr.heap.size fb (.int .i64 T.kd) (.string T.tx) (.int .i64 T.nm) (.int .i64 T.at_) (.int .i64 T.why) (.int .i64 T.fa)
  ft : w4.heap[wr.heap.size]? = some (.cells #[.int .i64 T.kd, .string T.tx, .int .i64 T.nm, .int .i64 T.at_] 42)
  ff : w4.heap[fb]? = some (.cells #[.int .i64 T.why, .int .i64 T.fa] 31)
  fr : w4.heap[w.heap.size]? = some fltZ
  bel : Below w.heap.size w w4
theorem wrote {s : ByteArray} {w wr w2 : World} {fb : Nat} {v : Value} {toks : List Tok} {a : Int} (h : TkInv s w fb v wr toks a 0 0) (b2 : Below (wr.heap.size + 1) (wr.alloc tokZ) w2) (T : TV) :
    ∃ w3 w4, (tkStore (.pointer (some ⟨wr.heap.size, 0, none⟩)) (.agg #[.int .i64 T.kd, .string T.tx, .int .i64 T.nm, .int .i64 T.at_])).run Tryz.prog w2 = .ok () w3 ∧
      (flStore (.pointer (some ⟨fb, 0, none⟩)) (.agg #[.int .i64 T.why, .int .i64 T.fa])).run Tryz.prog w3 = .ok () w4 ∧ Wrote w wr w2 w4 fb T := by
  have hsz := h.bel.size
  have hfb := h.fb1
  have hfl : fb < wr.heap.size := (Array.getElem?_eq_some_iff.1 h.fbx).1
  have bxT : w2.heap[wr.heap.size]? = some tokZ := by rw [b2.block _ (by omega)]; exact heap_alloc_new wr _
  have bxF : w2.heap[fb]? = some (.cells #[.int .i64 0, .int .i64 0] 31) := by rw [b2.block _ (by omega), Lib.alloc_old wr _ _ hfl]; exact h.fbx
  have bxR : w2.heap[w.heap.size]? = some fltZ := by rw [b2.block _ (by omega), Lib.alloc_old wr _ _ (by omega)]; exact h.rb
  have n1 : fb ≠ wr.heap.size := by omega
  have e3 : ((((w2.setCell ⟨wr.heap.size, 0, none⟩ (.int .i64 T.kd)).setCell ⟨wr.heap.size, 1, none⟩ (.string T.tx)).setCell ⟨wr.heap.size, 2, none⟩ (.int .i64 T.nm)).setCell ⟨wr.heap.size, 3, none⟩ (.int .i64 T.at_)).heap[fb]? = some (.cells #[.int .i64 0, .int .i64 0] 31) := by
    rw [heap_setCell_other _ _ _ _ n1, heap_setCell_other _ _ _ _ n1, heap_setCell_other _ _ _ _ n1, heap_setCell_other _ _ _ _ n1, bxF]
  have bel2 : Below w.heap.size w w2 := (h.bel.alloc (by omega) _).trans (b2.mono (by omega))
  exact ⟨_, _, tk_store bxT _ _ _ _, fl_store e3 _ _, ⟨rfl, six_tok _ _ _ _ _ _ _ _ _ _ _ _ _ n1.symm bxT, six_flt _ _ _ _ _ _ _ _ _ _ _ n1 bxF,
    by rw [six_other _ _ _ _ _ _ _ _ _ _ (by omega) (by omega)]; exact bxR, six_below bel2 (by omega) (by omega) _ _ _ _ _ _⟩⟩
/-- The result's box written, at the end. -/
theorem last {w wr : World} (hb : Below w.heap.size w wr) (hr : wr.heap[w.heap.size]? = some fltZ) (p q : Int) :
    ∃ w9, (flStore (.pointer (some ⟨w.heap.size, 0, none⟩)) (.agg #[.int .i64 p, .int .i64 q])).run Tryz.prog wr = .ok () w9 ∧ w9.cell? ⟨w.heap.size, 0, none⟩ = some (.int .i64 p) ∧ w9.cell? ⟨w.heap.size, 1, none⟩ = some (.int .i64 q) ∧
      Below w.heap.size w w9 ∧ (∀ k, w.heap.size + 1 ≤ k → w9.heap[k]? = wr.heap[k]?) := by
  have h9 := two_flt wr w.heap.size (.int .i64 p) (.int .i64 q) _ _ hr
  refine ⟨_, fl_store hr p q, by rw [Lib.cell_of_heap h9]; rfl, by rw [Lib.cell_of_heap h9]; rfl, (hb.setCell (p := ⟨w.heap.size, 0, none⟩) (Nat.le_refl _) _).setCell (p := ⟨w.heap.size, 1, none⟩) (Nat.le_refl _) _, fun k hk => ?_⟩
  rw [heap_setCell_other _ _ _ _ (by show k ≠ w.heap.size; omega), heap_setCell_other _ _ _ _ (by show k ≠ w.heap.size; omega)]

attribute [local go_sem ↓] storeAt_tk storeAt_fl loadAt_tk loadAt_fl
set_option maxRecDepth 100000 in
set_option maxHeartbeats 4000000 in
theorem tokens_any (s : ByteArray) (hs : s.size ≤ 65536) (w : World) (hE : Env w) :
    Calls Tryz.prog 40 #[.string s] w fun e w' => TokAns (lexP s.data.toList) w w' e := by
  have H := hide (show lexP s.data.toList = scan 0 s.data.toList by unfold lexP; rw [← size_len, if_neg (by omega)])
  have hb0 : Below w.heap.size w (w.alloc fltZ) := (Below.refl w.heap.size w).alloc (Nat.le_refl _) _
  obtain ⟨ml, hml⟩ := (hE.later hb0).ml
  have HG := hide (gapsEnd_any s 0 ml (Nat.zero_le _) hs (w.alloc fltZ) hml)
  have HE := hide hE
  clear hml hE hb0
  go_enter Tryz.func40, Tryz.ntmps40
  go_wp2_with fail
  refine (unhide HG).mono ?_
  rintro e w1 ⟨hge, b1⟩
  obtain ⟨a, why, fa, rfl, hst⟩ := gap_out hge
  have HT := hide (tk_start (by simpa using b1) hst)
  have hS0 := fl_new w1 why fa
  obtain ⟨wr0, hwr0⟩ : ∃ wr0, w1.alloc (.cells #[.int .i64 why, .int .i64 fa] 31) = wr0 := ⟨_, rfl⟩
  rw [hwr0] at HT hS0
  clear hge b1 hst HG hwr0
  go_wp2_with fail
  obtain ⟨fb, hfb2⟩ : ∃ fb, w1.heap.size = fb := ⟨_, rfl⟩
  rw [hfb2] at HT
  rw [hfb2]
  clear hS0 hfb2
  go_loopw [4, 5] (fun v i wr => TkRel s w fb v i wr) (fun _ i wr => tkMu s.size fb i wr)
  case atStart => exact ⟨[], a, why, fa, rfl, HT⟩
  case round =>
    clear HT
    obtain ⟨toks, a, why, fa, rfl, HH⟩ := hrel
    have c0 : wr.cell? ⟨fb, 0, none⟩ = some (.int .i64 why) := by rw [Lib.cell_of_heap (unhide HH).fbx]; rfl
    rcases (unhide HH).st with ⟨rfl, rfl, m, rfl, hms, htl, hgap, hsc⟩ | ⟨rfl, rfl, m, rfl, hsc⟩
    · by_cases hlt : m < s.size
      · have hsz := (unhide HH).bel.size
        have hEr := (unhide HE).later (unhide HH).bel
        have HTK := hide (token_any s m hlt hs (wr.alloc tokZ) (hEr.later ((Below.refl wr.heap.size wr).alloc (Nat.le_refl _) _)))
        have HHH := HH
        clear hEr HH
        go_wp2_with fail
        refine (unhide HTK).mono ?_
        rintro e w2 ⟨rfl, b2⟩
        have b2' : Below (wr.heap.size + 1) (wr.alloc tokZ) w2 := by simpa using b2
        clear b2 HTK c0
        cases ht : tokAt (s.data.toList.drop m) with
        | bad why o =>
          have hwz2 : (why != 0) = true := bne_iff_ne.2 (tok_bad ht).1
          have HSC := hide (show scan 0 s.data.toList = .bad why (m + o) by
            rw [hsc]; exact app_bad _ _ _ _ (scan_bad (by rw [drop_at s m hlt]; simp) hgap ht))
          obtain ⟨w3, w4, hS1, hS2, hW⟩ := wrote (unhide HHH) b2' (resT m (.bad why o))
          have c0 : w4.cell? ⟨fb, 0, none⟩ = some (.int .i64 why) := by rw [Lib.cell_of_heap hW.ff]; rfl
          have hL := fl_load (w := w4.drew) hW.ff
          obtain ⟨w9, hS9, z0, z1, bw, _⟩ := last (wr := w4.drew) hW.bel.drew hW.fr why ((m + o : Nat) : Int)
          have e : resT m (.bad why o) = ⟨0, ⟨#[]⟩, 0, 0, 0, why, ((m + o : Nat) : Int)⟩ := rfl
          rw [e] at hS1 hS2 hL ⊢
          obtain ⟨q, hq⟩ : ∃ q : Int, ((m + o : Nat) : Int) = q := ⟨_, rfl⟩
          rw [hq] at hS1 hS2 hS9 z1 hL ⊢
          have HQ := hide hq
          clear hsc hgap ht HHH hW b2' e hq
          go_wp2_with fail
          go_region
          all_goals
            go_wp2_with fail
            refine bodyPost_ret (v := .tuple #[.slice none 0 0, .agg #[.int .i64 why, .int .i64 q]]) (by simp [results, Tryz.results40, go_sem, z0, z1]) rfl ?_
            rw [unhide H, unhide HSC, ← unhide HQ]
            exact ⟨_, rfl, World.ownsRow_nil _ _ _ _, bw⟩
        | tok kd tx nm n =>
          have hp := tok_pos ht
          rw [len_drop] at hp
          obtain ⟨i0, hi, hz0, hz1, hz2⟩ := infoT_parts
          have HI := hide (show Tryz.prog.info? 42 = some i0 ∧ i0.zero = some (.agg #[.int .i64 0, .string ⟨#[]⟩, .int .i64 0, .int .i64 0]) ∧ i0.size = 4 ∧ i0.bytes = 40 from ⟨hi, hz0, hz1, hz2⟩)
          have HOW := hide (own_six (unhide HHH).own (unhide HHH).fbx b2' (.int .i64 kd) (.string ⟨tx.toArray⟩) (.int .i64 nm) (.int .i64 (m : Int)) (.int .i64 0) (.int .i64 0))
          have e : resT m (.tok kd tx nm n) = ⟨kd, ⟨tx.toArray⟩, nm, (m : Int), (m : Int) + (n : Int), 0, 0⟩ := by simp [resT]
          rw [e]
          obtain ⟨w3, w4, hS1, hS2, hW⟩ := wrote (unhide HHH) b2' ⟨kd, ⟨tx.toArray⟩, nm, (m : Int), (m : Int) + (n : Int), 0, 0⟩
          have c0 : w4.cell? ⟨fb, 0, none⟩ = some (.int .i64 0) := by rw [Lib.cell_of_heap hW.ff]; rfl
          have hL := tk_load hW.ft
          have hW4 := hW.bel.size
          have HEQ := hide hW.eq
          rw [← hW.eq] at HOW
          have HT := hide ht
          have HSC := hide hsc
          have HGP := hide hgap
          have HB2 := hide b2'
          have HBL := hide hW.bel
          clear hsc hgap ht hi hz0 hz1 hz2 b2' e hW
          go_wp2_with (at_builtin; refine wpList_append_own _ rfl _ _ 38 rfl (w.heap.size + 1) 42 i0 (.agg #[.int .i64 0, .string ⟨#[]⟩, .int .i64 0, .int .i64 0]) 4 40 Tryz.underlying38 (unhide HI).1 (unhide HI).2.1 (unhide HI).2.2.1 (unhide HI).2.2.2 rfl (by decide) _ _ _ rfl ((unhide HOW).alloc _) ⟨_, 0, none⟩ 1 1 [.int .i64 kd, .string ⟨tx.toArray⟩, .int .i64 nm, .int .i64 (m : Int)] rfl rfl (tok_cell _ _ _ _ _) (tok_one _ _ _ _) (by unfold maxLen; omega) (by omega) (by simp; omega) ?_; intro v' w5 hown' hgrow _)
          have hgrow' := hgrow
          rw [unhide HEQ] at hgrow'
          have HGR := hide hgrow'
          have HON := hide hown'
          obtain ⟨bel5, f5⟩ := tk_mid (unhide HHH) (unhide HB2) hgrow'
          obtain ⟨ml, hml⟩ := ((unhide HE).later bel5).ml
          clear hgrow hgrow' hown' HOW HEQ HBL hL hS1 hS2 c0
          refine (gapsEnd_is s (m + n) _ ml (by omega) (by omega) hs _ hml).mono ?_
          rintro e w6 ⟨hge, b6⟩
          obtain ⟨a', why', fa', rfl, hst⟩ := gap_out hge
          have f6 : w6.heap[fb]? = some (.cells #[.int .i64 0, .int .i64 0] 31) := by rw [b6.block _ (Array.getElem?_eq_some_iff.1 f5).1]; exact f5
          have hS := fl_store f6 why' fa'
          have hN := tk_next (unhide HHH) hp.1 htl (unhide HGP) (unhide HT) (unhide HSC) (unhide HB2) (unhide HON) (unhide HGR) b6 hst
          have hc := two_flt w6 fb (.int .i64 why') (.int .i64 fa') _ _ f6
          obtain ⟨w7, hw7⟩ : ∃ w7, (w6.setCell ⟨fb, 0, none⟩ (.int .i64 why')).setCell ⟨fb, 1, none⟩ (.int .i64 fa') = w7 := ⟨_, rfl⟩
          rw [hw7] at hS hN hc
          have hmu : tkMu s.size fb (.int .i64 a') w7 < tkMu s.size fb (.int .i64 (m : Int)) wr := by
            unfold tkMu
            have e1 : w7.cell? ⟨fb, 0, none⟩ = some (.int .i64 why') := by rw [Lib.cell_of_heap hc]; rfl
            have e2 : wr.cell? ⟨fb, 0, none⟩ = some (.int .i64 0) := by rw [Lib.cell_of_heap (unhide HHH).fbx]; rfl
            rw [e1, e2]
            rw [show fltOf (some (.int .i64 why')) = why' from rfl, show fltOf (some (.int .i64 0)) = 0 from rfl, if_pos rfl]
            rw [show intOf (.int .i64 a') = a' from rfl, show intOf (.int .i64 (m : Int)) = (m : Int) from rfl]
            by_cases h0 : why' = 0
            · rw [if_pos h0]
              have := hN.2.1 h0
              omega
            · rw [if_neg h0]; omega
          have HR := hide (show TkRel s w fb v' (.int .i64 a') w7 from ⟨_, _, _, _, rfl, hide hN.1⟩)
          have HMU := hide hmu
          clear hge b6 hst f5 f6 hN hc hw7 hmu bel5 hml HHH HON HGR
          go_wp2_with fail
          go_roundw
          case rel => exact unhide HR
          case measure => exact unhide HMU
      · have HSC := hide (show scan 0 s.data.toList = .ok toks by rw [hsc, drop_end s m (by omega), scan_nil]; simp [Out.app])
        have HO := hide (unhide HH).own
        obtain ⟨w9, hS9, z0, z1, bw, HO2⟩ := last (unhide HH).bel (unhide HH).rb 0 0
        have HO3 := hide (out_own (unhide HO) HO2)
        clear hsc hgap HH HO HO2
        go_wp2_with fail
        refine bodyPost_ret (v := .tuple #[u4, .agg #[.int .i64 0, .int .i64 0]]) (by simp [results, Tryz.results40, go_sem, z0, z1]) rfl ?_
        rw [unhide H, unhide HSC]
        exact ⟨u4, rfl, unhide HO3, bw⟩
    · have HSC := hide hsc
      obtain ⟨w9, hS9, z0, z1, bw, _⟩ := last (wr := wr.drew) (unhide HH).bel.drew (unhide HH).rb 7 (m : Int)
      have hL := fl_load (w := wr.drew) (unhide HH).fbx
      clear hsc HH
      go_wp2_with fail
      go_region
      all_goals
        go_wp2_with fail
        refine bodyPost_ret (v := .tuple #[.slice none 0 0, .agg #[.int .i64 7, .int .i64 (m : Int)]]) (by simp [results, Tryz.results40, go_sem, z0, z1]) rfl ?_
        rw [unhide H, unhide HSC]
        exact ⟨_, rfl, World.ownsRow_nil _ _ _ _, bw⟩
end Go.Proofs.YtcdobniommnflaaGreatDoor
